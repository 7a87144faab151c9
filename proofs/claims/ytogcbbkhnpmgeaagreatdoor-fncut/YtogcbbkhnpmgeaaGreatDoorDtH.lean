/- A page is written: by the model. -/
import Derived.Test.YtogcbbkhnpmgeaaGreatDoorZBD
set_option maxRecDepth 100000
set_option maxHeartbeats 16000000
namespace Go.Proofs.YtogcbbkhnpmgeaaGreatDoor
open Go.RowKit
def yagw(w w':World)(e:Ending)(r:List Mi×Int):Prop:=∃ v',e=.returned (.tuple #[v',.I r.2])/\Row w' 82 3 w.heap.size w'.heap.size v' r.1.length (mis r.1)/\zB w w'
theorem zfr{w w1:World}{n:Nat}{c:Int}(B:zB w w1)(e:n=w1.heap.size):yagw w (w1.alloc (.cells #[] 82)) (.returned (.tuple #[.slice (some ⟨n,0,none⟩) 0 0,.I c])) ([],c):=by
 subst e;exact⟨_,rfl,(zmo w1 _ _).wide B.size zL,B.alloc B.size _⟩
structure MiI(W w:World)(vL:Value)(ls:List Mi):Prop where
 l:w.ownsRow W.heap.size 82 3 vL ls.length (mis ls)
 b:zB W w
theorem MiI.z{W w:World}{vL:Value}{ls:List Mi}(h:MiI W w vL ls):W.heap.size<=w.heap.size:=h.b.size
theorem MiI.below{W w w':World}{vL:Value}{ls:List Mi}(h:MiI W w vL ls)(hb:zB w w'):MiI W w' vL ls :=
 ⟨((zad h.l).below hb zL).1,zab h.b hb h.z⟩
theorem MiI.grow{W w w':World}{vL v':Value}{ls:List Mi}(h:MiI W w vL ls)(ms:List Mi)(ho:w'.ownsRow W.heap.size 82 3 v' (ls.length+ms.length) (mis ls++mis ms))(hg:w.grownBy w' vL.ownBlock):MiI W w' v' (ls++ms) :=
 ⟨by rw[zqr,List.length_append];exact ho,h.b.grown hg h.z (fun q hq=>(h.l.lt q hq).1)⟩
theorem yavk:(104:Nat)≠82:=by decide
structure WrI(W w:World)(vL vU:Value)(ls:List Mi)(us:List Se):Prop where
 l:w.ownsRow W.heap.size 82 3 vL ls.length (mis ls)
 u:w.ownsRow W.heap.size 104 2 vU us.length (ses us)
 b:zB W w
theorem WrI.z{W w:World}{vL vU:Value}{ls:List Mi}{us:List Se}(h:WrI W w vL vU ls us):W.heap.size<=w.heap.size:=h.b.size
theorem WrI.mi{W w:World}{vL vU:Value}{ls:List Mi}{us:List Se}(h:WrI W w vL vU ls us):MiI W w vL ls:=⟨h.l,h.b⟩
theorem WrI.below{W w w':World}{vL vU:Value}{ls:List Mi}{us:List Se}(h:WrI W w vL vU ls us)(hb:zB w w'):WrI W w' vL vU ls us :=
 ⟨((zad h.l).below hb zL).1,((zad h.u).below hb zL).1,zab h.b hb h.z⟩
theorem WrI.growU{W w w':World}{vL vU v':Value}{ls:List Mi}{us:List Se}(h:WrI W w vL vU ls us)(ms:List Se)(ho:w'.ownsRow W.heap.size 104 2 v' (us.length+ms.length) (ses us++ses ms))(hg:w.grownBy w' vU.ownBlock):WrI W w' vL v' ls (us++ms) :=
 ⟨(Row.apart (zad h.l) (zad h.u) (Ne.symm yavk) hg).1,by rw[yahm,List.length_append];exact ho,h.b.grown hg h.z (fun q hq=>(h.u.lt q hq).1)⟩
theorem yagb(i page size e:Int):(wrU i page size e).length<=2:=by
 unfold wrU
 split<;>simp
theorem yasx{i:Nat}{p:Nat}(hi:i<16)(hp:p<8)(size e:Int):∀ k (h:k<(wrU (i:Int) (p:Int) size e).length),0<=(wrU (i:Int) (p:Int) size e)[k].at_/\(wrU (i:Int) (p:Int) size e)[k].at_<336:=by
 intro k h;have m:=List.getElem_mem h
 revert m
 generalize (wrU (i:Int) (p:Int) size e)[k]=u;unfold wrU;intro m
 rcases List.mem_cons.1 m with rfl | m
 ·exact⟨by show 0<=48+12*(i:Int)+(3+(p:Int));omega,by show 48+12*(i:Int)+(3+(p:Int))<336;omega⟩
 ·split at m
  ·rw[List.mem_singleton.1 m];exact⟨by show 0<=48+12*(i:Int)+1;omega,by show 48+12*(i:Int)+1<336;omega⟩
  ·cases m
theorem zum(v:Value)(ns:List Ino)(ds:List Den)(s:ByteArray)(page x:Int)(w:World)(h:RdIm w v ns ds)(hi:zcr ns ds=true)(hs:s.size<=65536) :
  zC 76 #[v,.string s,.I page,.I x] w fun e w'=>yagw w w' e (wrI ns ds s page x):=by
 have LL:=zaa (fun w1 (hb:zB w w1)=>zis v ns ds s w1 (h.below hb) hi hs);have EL:=zaa (show wrI ns ds s page x=if (flI ns ds s).2=0 then wrF ns (flI ns ds s).1 page x else([],(flI ns ds s).2)from rfl);have LO:=zaa (fun c=>zfh (s:=s) (zbi.1 hi) c);obtain⟨l16,l24,_⟩:=zaw hi
 have TR:∀ k (h:k<ns.length),∀ z∈ns[k].map,0<=z/\z<=1048576:=fun k hk z hz=>by
  have t:=(zet ((zbi.1 hi).ok k (by omega))).1 z (by rw[zbj hk];exact hz);unfold zef zgp at t;rw[Bool.and_eq_true,decide_eq_true_eq,decide_eq_true_eq]at t;omega
 have LF1:Hid (∀ w1,zB w w1->zC 141 #[v,.I 1,.I 24] w1 fun e w'=>e=.returned (.I (fpI ns))/\zB w1 w'):=fun w1 hb=>zgr v ns ds 1 24 w1 (h.below hb) (by omega) TR (by omega)
 have LF2:Hid (∀ w1,zB w w1->zC 141 #[v,.I 2,.I 32] w1 fun e w'=>e=.returned (.I (fsI ns))/\zB w1 w'):=fun w1 hb=>zgr v ns ds 2 32 w1 (h.below hb) (by omega) TR (by omega)
 have L16:=zaa l16
 have F1:Hid (0<=fpI ns->∃ k:Nat,k<24/\fpI ns=(k:Int)):=fun c=>by
  obtain⟨k,a,b,-⟩:=zcx c;exact⟨k,a,b⟩
 have F2:Hid (0<=fsI ns->∃ k:Nat,k<32/\fsI ns=(k:Int)):=fun c=>by
  obtain⟨k,a,b,-⟩:=zcx c;exact⟨k,a,b⟩
 have EF:=zaa (fun i=>show wrF ns i page x=if (0<=page/\page<8)/\zaz x=true then(if fpI ns<0/\fsI ns<0 then([],7) else((if 0<=fpI ns then⟨1,312+fpI ns,x⟩::zbf [312+fpI ns] else[⟨4,fsI ns,x⟩,⟨5,0,0⟩])++zds (zdw (wrU i page (zcz ns i) (if 0<=fpI ns then 4*fpI ns+1 else 4*fsI ns+2))),0)) else([],4)from rfl);obtain⟨vW,vP,rfl,h1,h2⟩:=h;obtain⟨aW,cW,rfl,_,hcW⟩:=h1.shape;obtain⟨aP,cP,rfl,_,hcP⟩:=h2.shape;obtain⟨bW,oW,rfl,hblW,hcellW⟩:=hcW (by omega)
 have HM:Hid (∀ k,k<16->∀ w',zB w w'->w'.cell? ⟨bW,oW+k*11+1,none⟩=some (.I (zcz ns (k:Int)))):=fun k hk w' hb=>by
  unfold zcz;rw[Int.toNat_natCast,zbj (by omega:k<ns.length)];exact(hb.cell (p:=⟨bW,oW+k*11+1,none⟩) hblW).trans (hcellW k (by omega)).2.1
 clear h1 h2 hi hs hcW hcP hcellW l16 l24 TR
 obtain⟨W,hW⟩:=zE (w.alloc (.cells #[.slice (some ⟨bW,oW,none⟩) ns.length cW,.slice aP ds.length cP] 51))
 have CA:Hid (∀ w',zB W w'->w'.cell? ⟨w.heap.size,0,none⟩=some (.slice (some ⟨bW,oW,none⟩) ns.length cW)/\w'.cell? ⟨w.heap.size,1,none⟩=some (.slice aP ds.length cP)):=fun w' hb=>by
  have:w'.heap[w.heap.size]?=some (.cells #[.slice (some ⟨bW,oW,none⟩) ns.length cW,.slice aP ds.length cP] 51 (0,0)):=(hb.block _ (by rw[hW];simp)).trans (by rw[hW];exact zah rfl);exact⟨(zac this).1,(zac this).2.1⟩
 have BW:Hid (zB w W):=by rw[hW];exact zR.alloc zL _
 obtain⟨x0,x1⟩:=CA.o _ zR
 have hz:w.heap.size<W.heap.size:=by rw[hW];simp
 generalize wrI ns ds s page x=res at *;generalize flI ns ds s=lr at *;obtain⟨li,lc⟩:=lr;simp only at EL LO LL;go_enter Tryz.func76,Tryz.ntmps76;go_wp2_with fail;rw[<- hW];clear hW x0 x1;refine(LL.o _ BW.o).mono ?_;rintro e w1 ⟨rfl,hb1⟩;have A1:=zaa hb1;have B1:=zaa (zab BW.o A1.o BW.o.size);clear hb1 LL
 by_cases c:lc=0
 case neg =>
  rw[if_neg c]at EL;obtain rfl:=EL.o
  have q:(lc != 0)=true:=by rw[bne_iff_ne];exact c
  clear EL LO c;go_wp2;go_ret2;exact zfr B1.o rfl
 subst c;rw[if_pos rfl]at EL;obtain⟨i,i16,ei,-⟩:=LO.o rfl;subst ei;rw[EF.o]at EL;have HS:=zaa (HM.o i i16)
 have i1:i<ns.length:=by have:=L16.o;omega
 have i0:(0:Int)<=(i:Int):=by omega
 have il:(i:Int)<(ns.length:Int):=by omega
 have ir:0<=(i:Int)/\(i:Int)<16:=by omega
 clear HM EF LO L16;generalize zcz ns (i:Int)=sz at *
 by_cases c:0<=page/\page<8
 case neg =>
  rw[if_neg (fun q=>c q.1)]at EL;obtain rfl:=EL.o;clear EL;go_wp2_with fail;refine(zfl _ _ _ _ (by omega)).mono ?_;rintro e w' ⟨rfl,hw'⟩;subst w';go_wp2;go_ret2;exact zfr B1.o rfl
 obtain⟨p,rfl⟩:∃ p:Nat,page=(p:Int):=⟨page.toNat,by omega⟩
 have p8:p<8:=by omega
 go_wp2_with fail;refine(zbg _ _ _ _ (by omega)).mono ?_;rintro e w' ⟨rfl,hw'⟩;subst w';go_wp2_with fail;refine(zyv _ _).mono ?_;rintro e w' ⟨rfl,hw'⟩;subst w'
 cases cx:zaz x with
 | false =>
  rw[if_neg (fun q=>by rw[cx]at q;cases q.2)]at EL;obtain rfl:=EL.o;clear EL;go_wp2;go_ret2;exact zfr B1.o rfl
 | true =>
 rw[if_pos ⟨c,cx⟩]at EL;clear c cx
 have EW:Hid ((sz<=(p:Int)->∀ E,wrU (i:Int) (p:Int) sz E=[⟨48+12*(i:Int)+(3+(p:Int)),E⟩]++[⟨48+12*(i:Int)+1,(p:Int)+1⟩])/\(¬ sz<=(p:Int)->∀ E,wrU (i:Int) (p:Int) sz E=[⟨48+12*(i:Int)+(3+(p:Int)),E⟩])) :=
  ⟨fun q E=>by unfold wrU;rw[if_pos q];rfl,fun q E=>by unfold wrU;rw[if_neg q]⟩
 have LPl0:=zaa (fun E v w1 (h:RdE w1 v (wrU (i:Int) (p:Int) sz E))=>zni v (wrU (i:Int) (p:Int) sz E) w1 h (by have:=yagb (i:Int) (p:Int) sz E;omega) (yasx i16 p8 sz E));have PN0:=zaa (fun E=>Nat.le_trans (zkf (wrU (i:Int) (p:Int) sz E)) (show 6*(wrU (i:Int) (p:Int) sz E).length+8<=20 by have:=yagb (i:Int) (p:Int) sz E;omega))
 have M0:Hid (MiI W (w1.alloc (.cells #[] 82)) (.slice (some ⟨w1.heap.size,0,none⟩) 0 0) []):=⟨((zmo w1 82 3).wide A1.o.size zL).1,A1.o.alloc A1.o.size _⟩
 obtain⟨x0,x1⟩:=CA.o _ M0.o.b;have B2:=zaa (zab BW.o M0.o.b BW.o.size);go_wp2_with fail
 obtain⟨w2,hw2⟩:=zE (w1.alloc (.cells #[] 82))
 rw[<- hw2]at M0 B2 x0 x1 ⊢;clear hw2;refine(LF1.o _ B2.o).mono ?_;rintro e w3 ⟨rfl,hb3⟩;have M3:=zaa (M0.o.below hb3);have B3:=zaa (zab BW.o M3.o.b BW.o.size);clear hb3 M0 x0 x1 B2 A1 B1 LF1;generalize fpI ns=fp at *;generalize fsI ns=fs at *
 by_cases c:0<=fp
 ·rw[if_neg (fun q=>by omega),if_pos c,if_pos c]at EL;obtain⟨k,k24,ek⟩:=F1.o c;subst ek;have c':(k:Int)>=0:=c;clear F1 F2 LF2
  have kr:0<=(k:Int)/\(k:Int)<32:=by omega
  go_wp2_with fail;refine(zct _ _ _).mono ?_;rintro e w4 ⟨rfl,hb4⟩;have M4:=zaa ((M3.o.below hb4).below (zR.alloc zL (.cells #[.I 1,.I (312+(k:Int)),.I x] 82)));have R4:=zaa (zqj w4 1 (312+(k:Int)) x);have hz4:=M4.o.z;clear hb4 M3;go_wp2_with (at_builtin;refine zae _ rfl (.tmp 41) (.tmp 46) 32 rfl W.heap.size 82 (.agg #[.I 0,.I 0,.I 0]) 3 24 Tryz.underlying32 zbx rfl (by decide) _ _ _ rfl M4.o.l _ 1 _ rfl R4.o (zit _) (by first | omega | (simp[maxLen];done) | (simp[maxLen];omega)) (by first | omega | (simp;done) | (simp;omega)) hz4 ?_);intro v5 w5 hown5 hgr5;have M5:=zaa (M4.o.grow [⟨1,312+(k:Int),x⟩] (by rw[zlz];exact hown5) hgr5);have M6:=zaa (M5.o.below (zR.alloc zL (.cells #[.I (312+(k:Int))] 3)));have R6:=zaa (zks w5 (312+(k:Int)));clear hown5 hgr5 M4 R4 M5;go_wp2_with fail;refine(zcu _ [312+(k:Int)] _ R6.o (by simp) (by intro j h;simp at h;subst h;simp;omega)).mono ?_;rintro e w7 ⟨v7,rfl,hr7,hb7⟩;have M7:=zaa (M6.o.below hb7);have R7:=zaa hr7.rd;have hz7:=M7.o.z;have l7:(zbf [312+(k:Int)]).length<=2:=zbv [312+(k:Int)];have EX:Hid ((⟨1,312+(k:Int),x⟩:Mi)::zbf [312+(k:Int)]=([]++[⟨1,312+(k:Int),x⟩])++zbf [312+(k:Int)]):=rfl;rw[EX.o]at EL;clear hr7 hb7 M6 R6 EX;generalize zbf [312+(k:Int)]=FL at *;go_wp2_with (at_builtin;refine zae _ rfl (.tmp 48) (.tmp 52) 32 rfl W.heap.size 82 (.agg #[.I 0,.I 0,.I 0]) 3 24 Tryz.underlying32 zbx rfl (by decide) _ _ _ rfl M7.o.l _ _ _ rfl R7.o (zcv _) (by first | omega | (simp[maxLen];done) | (simp[maxLen];omega)) (by first | omega | (simp;done) | (simp;omega)) hz7 ?_);intro vT wT hownT hgrT;have M:=zaa (M7.o.grow FL hownT hgrT)
  have lT:(([]++[(⟨1,312+(k:Int),x⟩:Mi)])++FL).length<=3:=by simp;omega
  generalize ([]++[(⟨1,312+(k:Int),x⟩:Mi)])++FL=L at *;clear hownT hgrT M7 R7;go_wp2_with fail;refine(zfn _ _ _ (by omega) kr).mono ?_;rintro e w' ⟨rfl,hw'⟩;subst w';have LPl:=zaa (LPl0.o (4*(k:Int)+1));have PN:=PN0.o (4*(k:Int)+1);have EW:=zaa (And.intro (fun q=>EW.o.1 q (4*(k:Int)+1)) (fun q=>EW.o.2 q (4*(k:Int)+1)));generalize 4*(k:Int)+1=E at *;generalize zds (zdw (wrU (i:Int) (p:Int) sz E))=PL at *;clear LPl0 PN0
  have SU:Hid (WrI W (wT.alloc (.cells #[.I (48+12*(i:Int)+(3+(p:Int))),.I E] 104)) vT (.slice (some ⟨wT.heap.size,0,none⟩) 1 1) L [⟨48+12*(i:Int)+(3+(p:Int)),E⟩]) :=
   ⟨((zad M.o.l).below (zR.alloc zL _) zL).1,World.ownsRow_lit wT _ 1 M.o.b.size (by simp[maxLen]) rfl,M.o.b.alloc M.o.b.size _⟩
  have pr:0<=3+(p:Int)/\3+(p:Int)<11:=by omega
  go_wp2_with fail;refine(zay _ _ _ ir pr).mono ?_;rintro e w' ⟨rfl,hw'⟩;subst w';obtain⟨x0,x1⟩:=CA.o _ SU.o.b;have y0:=HS.o _ (zab BW.o SU.o.b BW.o.size);clear M
  by_cases cs:sz<=(p:Int)
  ·have cs':(p:Int)>=sz:=cs;have SV:=zaa (SU.o.below (zR.alloc zL (.cells #[.I (48+12*(i:Int)+1),.I ((p:Int)+1)] 104)));have RV:=zaa (zig (wT.alloc (.cells #[.I (48+12*(i:Int)+(3+(p:Int))),.I E] 104)) (48+12*(i:Int)+1) ((p:Int)+1));have hzv:=SV.o.z;simp only[World.size_alloc]at RV;go_wp2_with fail;refine(zay _ _ _ ir (by omega)).mono ?_;rintro e w' ⟨rfl,hw'⟩;subst w';clear SU;go_wp2_with (at_builtin;refine zae _ rfl (.tmp 85) (.tmp 91) 58 rfl W.heap.size 104 (.agg #[.I 0,.I 0]) 2 16 Tryz.underlying58 zkb rfl (by decide) _ _ _ rfl SV.o.u _ 1 _ rfl RV.o (zev _) (by first | omega | (simp[maxLen])) (by first | omega | simp) hzv ?_);intro vU wU hownU hgrU;have SW:=zaa (SV.o.growU [⟨48+12*(i:Int)+1,(p:Int)+1⟩] hownU hgrU);obtain⟨-,aU,kU,hvU,-⟩:=(zad hownU).rd;subst hvU;clear hownU hgrU SV RV x0 x1 y0;have EU:=zaa (EW.o.1 cs);have UL:Hid (([⟨48+12*(i:Int)+(3+(p:Int)),E⟩]++[⟨48+12*(i:Int)+1,(p:Int)+1⟩]:List Se)=wrU (i:Int) (p:Int) sz E):=EU.o.symm;rw[UL.o]at SW;go_wp2_with fail;refine(LPl.o _ _ (zad SW.o.u).rd).mono ?_;rintro e wP ⟨vP,rfl,hrP,hbP⟩;have MP:=zaa ((SW.o.mi).below hbP);have RP:=zaa hrP.rd;have hzp:=MP.o.z;clear hrP hbP SW;go_wp2_with (at_builtin;refine zae _ rfl (.tmp 93) (.tmp 95) 32 rfl W.heap.size 82 (.agg #[.I 0,.I 0,.I 0]) 3 24 Tryz.underlying32 zbx rfl (by decide) _ _ _ rfl MP.o.l _ _ _ rfl RP.o (zcv _) (by first | omega | (simp[maxLen];done) | (simp[maxLen];omega)) (by first | omega | (simp;done) | (simp;omega)) hzp ?_);intro vN wN hownN hgrN;have G:=zaa (MP.o.grow _ hownN hgrN);obtain⟨-,aN,kN,hvN,-⟩:=(zad hownN).rd;subst hvN;obtain rfl:=EL.o;clear hownN hgrN MP RP;go_wp2;go_ret2;exact⟨_,rfl,(zad G.o.l).wide (by have:=BW.o.size;omega) zL,zab BW.o G.o.b BW.o.size⟩
  ·have cs':¬ (p:Int)>=sz:=cs;have SW:=SU;have EU:=zaa (EW.o.2 (by omega));have UL:Hid (([⟨48+12*(i:Int)+(3+(p:Int)),E⟩]:List Se)=wrU (i:Int) (p:Int) sz E):=EU.o.symm;rw[UL.o]at SW;clear SU;go_wp2_with fail;refine(LPl.o _ _ (zad SW.o.u).rd).mono ?_;rintro e wP ⟨vP,rfl,hrP,hbP⟩;have MP:=zaa ((SW.o.mi).below hbP);have RP:=zaa hrP.rd;have hzp:=MP.o.z;clear hrP hbP SW;go_wp2_with (at_builtin;refine zae _ rfl (.tmp 93) (.tmp 95) 32 rfl W.heap.size 82 (.agg #[.I 0,.I 0,.I 0]) 3 24 Tryz.underlying32 zbx rfl (by decide) _ _ _ rfl MP.o.l _ _ _ rfl RP.o (zcv _) (by first | omega | (simp[maxLen];done) | (simp[maxLen];omega)) (by first | omega | (simp;done) | (simp;omega)) hzp ?_);intro vN wN hownN hgrN;have G:=zaa (MP.o.grow _ hownN hgrN);obtain⟨-,aN,kN,hvN,-⟩:=(zad hownN).rd;subst hvN;obtain rfl:=EL.o;clear hownN hgrN MP RP;go_wp2;go_ret2;exact⟨_,rfl,(zad G.o.l).wide (by have:=BW.o.size;omega) zL,zab BW.o G.o.b BW.o.size⟩
 ·have c':¬ fp>=0:=c;obtain⟨x0,x1⟩:=CA.o _ M3.o.b;go_wp2_with fail;refine(LF2.o _ B3.o).mono ?_;rintro e w4 ⟨rfl,hb4⟩;have M4:=zaa (M3.o.below hb4);have B4:=zaa (zab BW.o M4.o.b BW.o.size);clear hb4 M3 x0 x1 B3 LF2
  by_cases d:0<=fs
  case neg =>
   have d':¬ fs>=0:=d;rw[if_pos ⟨by omega,by omega⟩]at EL;obtain rfl:=EL.o;clear EL;go_wp2;go_ret2;exact zfr B4.o rfl
  rw[if_neg (fun q=>by omega),if_neg (by omega:¬ 0<=fp),if_neg (by omega:¬ 0<=fp)]at EL;obtain⟨k,k32,ek⟩:=F2.o d;subst ek;have d':(k:Int)>=0:=d;clear F1 F2
  have kr:0<=(k:Int)/\(k:Int)<32:=by omega
  have M5:=zaa (M4.o.below (zR.alloc zL (.cells #[.I 4,.I (k:Int),.I x,.I 5,.I 0,.I 0] 82)));have R5:=zaa (yaez w4 4 (k:Int) x 5 0 0);have hz5:=M5.o.z;clear M4;go_wp2_with (at_builtin;refine zae _ rfl (.tmp 60) (.tmp 65) 32 rfl W.heap.size 82 (.agg #[.I 0,.I 0,.I 0]) 3 24 Tryz.underlying32 zbx rfl (by decide) _ _ _ rfl M5.o.l _ 2 _ rfl R5.o (zcv _) (by first | omega | (simp[maxLen];done) | (simp[maxLen];omega)) (by first | omega | (simp;done) | (simp;omega)) hz5 ?_);intro vT wT hownT hgrT;have M:=zaa (M5.o.grow [⟨4,(k:Int),x⟩,⟨5,0,0⟩] hownT hgrT);have EX:Hid ([(⟨4,(k:Int),x⟩:Mi),⟨5,0,0⟩]=[]++[⟨4,(k:Int),x⟩,⟨5,0,0⟩]):=rfl;rw[EX.o]at EL
  have lT:([]++[(⟨4,(k:Int),x⟩:Mi),⟨5,0,0⟩]).length<=3:=by simp
  generalize []++[(⟨4,(k:Int),x⟩:Mi),⟨5,0,0⟩]=L at *;clear hownT hgrT M5 R5 EX;go_wp2_with fail;refine(zfn _ _ _ (by omega) kr).mono ?_;rintro e w' ⟨rfl,hw'⟩;subst w';have LPl:=zaa (LPl0.o (4*(k:Int)+2));have PN:=PN0.o (4*(k:Int)+2);have EW:=zaa (And.intro (fun q=>EW.o.1 q (4*(k:Int)+2)) (fun q=>EW.o.2 q (4*(k:Int)+2)));generalize 4*(k:Int)+2=E at *;generalize zds (zdw (wrU (i:Int) (p:Int) sz E))=PL at *;clear LPl0 PN0
  have SU:Hid (WrI W (wT.alloc (.cells #[.I (48+12*(i:Int)+(3+(p:Int))),.I E] 104)) vT (.slice (some ⟨wT.heap.size,0,none⟩) 1 1) L [⟨48+12*(i:Int)+(3+(p:Int)),E⟩]) :=
   ⟨((zad M.o.l).below (zR.alloc zL _) zL).1,World.ownsRow_lit wT _ 1 M.o.b.size (by simp[maxLen]) rfl,M.o.b.alloc M.o.b.size _⟩
  have pr:0<=3+(p:Int)/\3+(p:Int)<11:=by omega
  go_wp2_with fail;refine(zay _ _ _ ir pr).mono ?_;rintro e w' ⟨rfl,hw'⟩;subst w';obtain⟨x0,x1⟩:=CA.o _ SU.o.b;have y0:=HS.o _ (zab BW.o SU.o.b BW.o.size);clear M
  by_cases cs:sz<=(p:Int)
  ·have cs':(p:Int)>=sz:=cs;have SV:=zaa (SU.o.below (zR.alloc zL (.cells #[.I (48+12*(i:Int)+1),.I ((p:Int)+1)] 104)));have RV:=zaa (zig (wT.alloc (.cells #[.I (48+12*(i:Int)+(3+(p:Int))),.I E] 104)) (48+12*(i:Int)+1) ((p:Int)+1));have hzv:=SV.o.z;simp only[World.size_alloc]at RV;go_wp2_with fail;refine(zay _ _ _ ir (by omega)).mono ?_;rintro e w' ⟨rfl,hw'⟩;subst w';clear SU;go_wp2_with (at_builtin;refine zae _ rfl (.tmp 85) (.tmp 91) 58 rfl W.heap.size 104 (.agg #[.I 0,.I 0]) 2 16 Tryz.underlying58 zkb rfl (by decide) _ _ _ rfl SV.o.u _ 1 _ rfl RV.o (zev _) (by first | omega | (simp[maxLen])) (by first | omega | simp) hzv ?_);intro vU wU hownU hgrU;have SW:=zaa (SV.o.growU [⟨48+12*(i:Int)+1,(p:Int)+1⟩] hownU hgrU);obtain⟨-,aU,kU,hvU,-⟩:=(zad hownU).rd;subst hvU;clear hownU hgrU SV RV x0 x1 y0;have EU:=zaa (EW.o.1 cs);have UL:Hid (([⟨48+12*(i:Int)+(3+(p:Int)),E⟩]++[⟨48+12*(i:Int)+1,(p:Int)+1⟩]:List Se)=wrU (i:Int) (p:Int) sz E):=EU.o.symm;rw[UL.o]at SW;go_wp2_with fail;refine(LPl.o _ _ (zad SW.o.u).rd).mono ?_;rintro e wP ⟨vP,rfl,hrP,hbP⟩;have MP:=zaa ((SW.o.mi).below hbP);have RP:=zaa hrP.rd;have hzp:=MP.o.z;clear hrP hbP SW;go_wp2_with (at_builtin;refine zae _ rfl (.tmp 93) (.tmp 95) 32 rfl W.heap.size 82 (.agg #[.I 0,.I 0,.I 0]) 3 24 Tryz.underlying32 zbx rfl (by decide) _ _ _ rfl MP.o.l _ _ _ rfl RP.o (zcv _) (by first | omega | (simp[maxLen];done) | (simp[maxLen];omega)) (by first | omega | (simp;done) | (simp;omega)) hzp ?_);intro vN wN hownN hgrN;have G:=zaa (MP.o.grow _ hownN hgrN);obtain⟨-,aN,kN,hvN,-⟩:=(zad hownN).rd;subst hvN;obtain rfl:=EL.o;clear hownN hgrN MP RP;go_wp2;go_ret2;exact⟨_,rfl,(zad G.o.l).wide (by have:=BW.o.size;omega) zL,zab BW.o G.o.b BW.o.size⟩
  ·have cs':¬ (p:Int)>=sz:=cs;have SW:=SU;have EU:=zaa (EW.o.2 (by omega));have UL:Hid (([⟨48+12*(i:Int)+(3+(p:Int)),E⟩]:List Se)=wrU (i:Int) (p:Int) sz E):=EU.o.symm;rw[UL.o]at SW;clear SU;go_wp2_with fail;refine(LPl.o _ _ (zad SW.o.u).rd).mono ?_;rintro e wP ⟨vP,rfl,hrP,hbP⟩;have MP:=zaa ((SW.o.mi).below hbP);have RP:=zaa hrP.rd;have hzp:=MP.o.z;clear hrP hbP SW;go_wp2_with (at_builtin;refine zae _ rfl (.tmp 93) (.tmp 95) 32 rfl W.heap.size 82 (.agg #[.I 0,.I 0,.I 0]) 3 24 Tryz.underlying32 zbx rfl (by decide) _ _ _ rfl MP.o.l _ _ _ rfl RP.o (zcv _) (by first | omega | (simp[maxLen];done) | (simp[maxLen];omega)) (by first | omega | (simp;done) | (simp;omega)) hzp ?_);intro vN wN hownN hgrN;have G:=zaa (MP.o.grow _ hownN hgrN);obtain⟨-,aN,kN,hvN,-⟩:=(zad hownN).rd;subst hvN;obtain rfl:=EL.o;clear hownN hgrN MP RP;go_wp2;go_ret2;exact⟨_,rfl,(zad G.o.l).wide (by have:=BW.o.size;omega) zL,zab BW.o G.o.b BW.o.size⟩
end Go.Proofs.YtogcbbkhnpmgeaaGreatDoor
