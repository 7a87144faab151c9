import Derived.Test.YtdiaiejmoocpmaaGreatDoorZBT
set_option maxRecDepth 100000
set_option maxHeartbeats 8000000
namespace Go.Proofs.YtdiaiejmoocpmaaGreatDoor
open Go.RowKit
theorem zte(x:Ino)(i:Int)(sz:Int)(w:World)(hi:0<=i/\i<16) :
  zC 60 #[.agg #[.I x.kind,.I x.size,.I x.links,.I x.m0,.I x.m1,.I x.m2,.I x.m3,.I x.m4,.I x.m5,.I x.m6,.I x.m7,.I i],.I sz] w fun e w'=>e=.returned (.agg #[.I (48+12*i+1),.I sz])/\zB w w':=by
 have LU:=zaa (fun w1=>zje i 1 sz w1 hi (by omega))
 obtain⟨W,hW⟩:=zE ((w.alloc (.cells #[.I x.kind,.I x.size,.I x.links,.I x.m0,.I x.m1,.I x.m2,.I x.m3,.I x.m4,.I x.m5,.I x.m6,.I x.m7,.I i] 61)).alloc (.cells #[.I 0,.I 0] 114))
 have hzW:W.heap.size=w.heap.size+1+1:=by rw[hW];simp
 have x11:((w.alloc (.cells #[.I x.kind,.I x.size,.I x.links,.I x.m0,.I x.m1,.I x.m2,.I x.m3,.I x.m4,.I x.m5,.I x.m6,.I x.m7,.I i] 61)).alloc (.cells #[.I 0,.I 0] 114)).cell? ⟨w.heap.size,11,none⟩=some (.I i):=(zak (xs:=x.fa i) (zaj (zaf rfl)) 11).1
 have CR:Hid (∀ w',zB W w'->w'.heap[w.heap.size+1]?=some (.cells #[.I 0,.I 0] 114 (0,0))):=fun w' hb=>(hb.block _ (by omega)).trans (by
  rw[hW];have:=zaf (w:=w.alloc (.cells #[.I x.kind,.I x.size,.I x.links,.I x.m0,.I x.m1,.I x.m2,.I x.m3,.I x.m4,.I x.m5,.I x.m6,.I x.m7,.I i] 61)) (o:=.cells #[.I 0,.I 0] 114) rfl;rw[World.size_alloc]at this
  exact this)
 have BW:Hid (zB w W):=by rw[hW];exact(zR.alloc zL _).alloc (by simp) _
 clear hzW hi;go_enter Tryz.func60,Tryz.ntmps60;go_wp2_with fail;rw[<- hW];clear hW x11;refine(LU.o _).mono ?_;rintro e w1 ⟨rfl,hb1⟩;obtain⟨p0,p1,f0,f1⟩:=zac (CR.o _ hb1);have B1:=zaa (zab BW.o hb1 BW.o.size);clear hb1 CR;go_wp2;refine bodyPost_ret (v:=.agg #[.I (48+12*i+1),.I sz]) (by simp[results,Tryz.results60,go_sem,p0,p1]) rfl ⟨rfl,?_⟩
 repeat (first | with_reducible exact B1.o | refine Below.setCell ?_ (by simp only;omega) _)
theorem zsz(x:Ino)(i:Int)(page z:Int)(w:World)(hi:0<=i/\i<16)(hp:0<=page/\page<8) :
  zC 59 #[.agg #[.I x.kind,.I x.size,.I x.links,.I x.m0,.I x.m1,.I x.m2,.I x.m3,.I x.m4,.I x.m5,.I x.m6,.I x.m7,.I i],.I page,.I z] w fun e w'=>e=.returned (.agg #[.I (48+12*i+(3+page)),.I z])/\zB w w':=by
 have LU:=zaa (fun w1=>zje i (3+page) z w1 hi (by omega))
 obtain⟨W,hW⟩:=zE ((w.alloc (.cells #[.I x.kind,.I x.size,.I x.links,.I x.m0,.I x.m1,.I x.m2,.I x.m3,.I x.m4,.I x.m5,.I x.m6,.I x.m7,.I i] 61)).alloc (.cells #[.I 0,.I 0] 114))
 have hzW:W.heap.size=w.heap.size+1+1:=by rw[hW];simp
 have x11:((w.alloc (.cells #[.I x.kind,.I x.size,.I x.links,.I x.m0,.I x.m1,.I x.m2,.I x.m3,.I x.m4,.I x.m5,.I x.m6,.I x.m7,.I i] 61)).alloc (.cells #[.I 0,.I 0] 114)).cell? ⟨w.heap.size,11,none⟩=some (.I i):=(zak (xs:=x.fa i) (zaj (zaf rfl)) 11).1
 have CR:Hid (∀ w',zB W w'->w'.heap[w.heap.size+1]?=some (.cells #[.I 0,.I 0] 114 (0,0))):=fun w' hb=>(hb.block _ (by omega)).trans (by
  rw[hW];have:=zaf (w:=w.alloc (.cells #[.I x.kind,.I x.size,.I x.links,.I x.m0,.I x.m1,.I x.m2,.I x.m3,.I x.m4,.I x.m5,.I x.m6,.I x.m7,.I i] 61)) (o:=.cells #[.I 0,.I 0] 114) rfl;rw[World.size_alloc]at this
  exact this)
 have BW:Hid (zB w W):=by rw[hW];exact(zR.alloc zL _).alloc (by simp) _
 have wp3:IntKind.i64.wrap (3+page)=3+page:=by rw[IntKind.wrap_i64];omega
 clear hzW hi;go_enter Tryz.func59,Tryz.ntmps59;go_wp2_with fail;rw[<- hW];clear hW x11;refine(LU.o _).mono ?_;rintro e w1 ⟨rfl,hb1⟩;obtain⟨p0,p1,f0,f1⟩:=zac (CR.o _ hb1);have B1:=zaa (zab BW.o hb1 BW.o.size);clear hb1 CR;go_wp2;refine bodyPost_ret (v:=.agg #[.I (48+12*i+(3+page)),.I z]) (by simp[results,Tryz.results59,go_sem,p0,p1]) rfl ⟨rfl,?_⟩
 repeat (first | with_reducible exact B1.o | refine Below.setCell ?_ (by simp only;omega) _)
theorem zpf(x:Ino)(i page e:Int)(w:World)(hi:0<=i/\i<16)(hp:0<=page/\page<8) :
  zC 25 #[.agg #[.I x.kind,.I x.size,.I x.links,.I x.m0,.I x.m1,.I x.m2,.I x.m3,.I x.m4,.I x.m5,.I x.m6,.I x.m7,.I i,.I page,.I e]] w fun r w'=>∃ v',r=.returned v'/\Row w' 114 2 w.heap.size w'.heap.size v' (wrU i page x.size e).length (ses (wrU i page x.size e))/\zB w w':=by
 have LP:=zaa (fun w1=>zsz x i page e w1 hi hp);have LS:=zaa (fun w1=>zte x i (page+1) w1 hi);have EU:=zaa (show wrU i page x.size e=⟨48+12*i+(3+page),e⟩::(if x.size<=page then[⟨48+12*i+1,page+1⟩] else[])from rfl)
 have wp1:IntKind.i64.wrap (page+1)=page+1:=by rw[IntKind.wrap_i64];omega
 obtain⟨W,hW⟩:=zE (w.alloc (.cells #[.I x.kind,.I x.size,.I x.links,.I x.m0,.I x.m1,.I x.m2,.I x.m3,.I x.m4,.I x.m5,.I x.m6,.I x.m7,.I i,.I page,.I e] 75))
 have CA:Hid (∀ w',zB W w'->w'.cell? ⟨w.heap.size,0,none⟩=some (.I x.kind)/\w'.cell? ⟨w.heap.size,1,none⟩=some (.I x.size)/\w'.cell? ⟨w.heap.size,2,none⟩=some (.I x.links)/\w'.cell? ⟨w.heap.size,3,none⟩=some (.I x.m0)/\w'.cell? ⟨w.heap.size,4,none⟩=some (.I x.m1)/\w'.cell? ⟨w.heap.size,5,none⟩=some (.I x.m2)/\w'.cell? ⟨w.heap.size,6,none⟩=some (.I x.m3)/\w'.cell? ⟨w.heap.size,7,none⟩=some (.I x.m4)/\w'.cell? ⟨w.heap.size,8,none⟩=some (.I x.m5)/\w'.cell? ⟨w.heap.size,9,none⟩=some (.I x.m6)/\w'.cell? ⟨w.heap.size,10,none⟩=some (.I x.m7)/\w'.cell? ⟨w.heap.size,11,none⟩=some (.I i)/\w'.cell? ⟨w.heap.size,12,none⟩=some (.I page)/\w'.cell? ⟨w.heap.size,13,none⟩=some (.I e)):=fun w' hb=>by
  have q:w'.heap[w.heap.size]?=some (.cells ([.I x.kind,.I x.size,.I x.links,.I x.m0,.I x.m1,.I x.m2,.I x.m3,.I x.m4,.I x.m5,.I x.m6,.I x.m7,.I i,.I page,.I e]:List Value).toArray 75 (0,0)):=(hb.block _ (by rw[hW];simp)).trans (by rw[hW];exact zaf rfl);exact⟨(zak q 0).1,(zak q 1).1,(zak q 2).1,(zak q 3).1,(zak q 4).1,(zak q 5).1,(zak q 6).1,(zak q 7).1,(zak q 8).1,(zak q 9).1,(zak q 10).1,(zak q 11).1,(zak q 12).1,(zak q 13).1⟩
 have BW:Hid (zB w W):=by rw[hW];exact zR.alloc zL _
 obtain⟨k0,k1,k2,k3,k4,k5,k6,k7,k8,k9,k10,k11,k12,k13⟩:=CA.o _ zR;rw[hW]at k0 k1 k2 k3 k4 k5 k6 k7 k8 k9 k10 k11 k12 k13;generalize wrU i page x.size e=L at *;clear hi hp;go_enter Tryz.func25,Tryz.ntmps25;go_wp2_with fail;rw[<- hW];clear hW k0 k1 k2 k3 k4 k5 k6 k7 k8 k9 k10 k11 k12 k13;refine(LP.o _).mono ?_;rintro r w1 ⟨rfl,hb1⟩
 have ST:Hid (UpI W (w1.alloc (.cells #[.I (48+12*i+(3+page)),.I e] 114)) (.slice (some ⟨w1.heap.size,0,none⟩) 1 1) [⟨48+12*i+(3+page),e⟩]):=⟨World.ownsRow_lit w1 _ 1 hb1.size (by simp[maxLen]) rfl,hb1.alloc hb1.size _⟩
 have hz1:W.heap.size<=w1.heap.size:=hb1.size;clear hb1 LP;obtain⟨k0,k1,k2,k3,k4,k5,k6,k7,k8,k9,k10,k11,k12,k13⟩:=CA.o _ ST.o.b
 by_cases c:x.size<=page
 ·rw[if_pos c]at EU;obtain rfl:=EU.o;clear EU;go_wp2_with fail;refine(LS.o _).mono ?_;rintro r w2 ⟨rfl,hb2⟩;have JB:Hid (UpI W (w2.alloc (.cells #[.I (48+12*i+1),.I (page+1)] 114)) (.slice (some ⟨w1.heap.size,0,none⟩) 1 1) [⟨48+12*i+(3+page),e⟩]):=(ST.o.below hb2).below (zR.alloc zL _);have RB:=zaa (zkk w2 (48+12*i+1) (page+1));have hzb:=JB.o.z;clear hb2 ST k0 k1 k2 k3 k4 k5 k6 k7 k8 k9 k10 k11 k12 k13 CA LS;go_wp2_with (at_builtin;refine zae _ rfl (.tmp 19) (.tmp 26) 77 rfl W.heap.size 114 (.agg #[.I 0,.I 0]) 2 16 Tryz.underlying77 zmj rfl (by decide) _ _ _ rfl JB.o.l _ 1 _ rfl RB.o (zgc _) (by first | omega | (simp[maxLen];done) | (simp[maxLen];omega)) (by first | omega | (simp;done) | (simp;omega)) hzb ?_);intro vN wN hownN hgrN;have G:=zaa (JB.o.grow [⟨48+12*i+1,page+1⟩] hownN hgrN);have JW:=zaa (zab BW.o G.o.b BW.o.size);obtain⟨-,aN,cN,hvN,-⟩:=(zad G.o.l).rd;subst hvN;clear hownN hgrN JB RB;go_wp2;go_ret;exact⟨_,rfl,(zad G.o.l).wide BW.o.size zL,JW.o⟩
 ·rw[if_neg c]at EU;obtain rfl:=EU.o;have JW:=zaa (zab BW.o ST.o.b BW.o.size);clear EU;go_wp2;go_ret;exact⟨_,rfl,(zad ST.o.l).wide BW.o.size zL,JW.o⟩
def atsM(S:List Mi)(j:Nat):List Int:=(S.take j).map (·.at_)
def zra(S:List Mi):List Int:=S.map (·.at_)
theorem yaqr(S:List Mi)(j:Nat):(atsM S j).length<=j:=by simp[atsM];omega
theorem yapy(S:List Mi)(j:Nat)(h:j<S.length):atsM S (j+1)=atsM S j++[S[j].at_]:=by unfold atsM;rw[List.take_succ_eq_append_getElem h,List.map_append];rfl
theorem yauj(S:List Mi)(j:Nat)(h:S.length<=j):atsM S j=zra S:=by unfold atsM zra;rw[List.take_of_length_le h]
theorem zvb(S:List Mi):(zra S).length=S.length:=by simp[zra]
def segM(S:List Mi):List Mi:=S++zbb (zra S)
def zec:List (List Mi)->Nat->List Mi
 | [],_=>[]
 | _::_,0=>[]
 | P::Ps,k+1=>segM P++zec Ps k
theorem zty(Ps:List (List Mi)):zec Ps 0=[]:=by cases Ps<;>rfl
theorem zui:∀ (Ps:List (List Mi)) (k:Nat) (h:k<Ps.length),zec Ps (k+1)=zec Ps k++Ps[k]++zbb (zra Ps[k])
 | [],k,h=>absurd h (by simp)
 | P::Ps,0,h=>by simp[zec,zty,segM]
 | P::Ps,k+1,h=>by
   have:=zui Ps k (by simpa using h);simp only[zec,List.getElem_cons_succ];rw[this];simp
def zne(S:List Mi):Prop:=S.length<=50/\∀ k (h:k<S.length),0<=S[k].at_/\S[k].at_<336
theorem yavw{S:List Mi}(h:zne S):flC (zra S)=0/\fpL (zra S)=zbb (zra S):=by
 have hl:(zra S).length=S.length:=zvb S
 rcases yaee (zra S)with ⟨c,_⟩ | ⟨_,c,_⟩ | ⟨_,_,c,_⟩ | ⟨_,_,_,c⟩
 ·have:=h.1;omega
 ·have:=h.1;omega
 ·have:allP (zra S)=true:=decide_eq_true (fun k hk=>by simp only[zra,List.getElem_map];exact h.2 k (by omega));rw[this]at c;cases c
 ·exact c
theorem yaaz:∀ (Ps:List (List Mi)) (k:Nat),(∀ P∈Ps,P.length<=50)->(zec Ps k).length<=102*k
 | [],k,_=>by simp[zec]
 | _::_,0,_=>by simp[zec]
 | P::Ps,k+1,h=>by
   have h1:=yaaz Ps k (fun Q hQ=>h Q (List.mem_cons_of_mem _ hQ));have h2:=h P List.mem_cons_self;have h3:=zbi (zra P);simp only[zec,segM,List.length_append];rw[zvb]at h3;omega
theorem yatn{a b:World}{size:Nat}{v r:Value}{n:Nat}{xs:List Value}(h:Rd a size v n xs)(hg:a.grownBy b r.ownBlock)(hne:∀ q,v.ownBlock=some q->r.ownBlock=some q->False):Rd b size v n xs :=
 h.same hg.size (fun q hq e=>hg.block q hq (fun e'=>hne q e e'.symm))
theorem zit (b o cap:Nat) (Ps:List (List Mi)) (w:World) (hb:b<w.heap.size) (hn:Ps.length<=1000)
  (hP:∀ k (h:k<Ps.length),∃ a c,w.cell? ⟨b,o+k,none⟩=some (.slice a Ps[k].length c)/\RdM w (.slice a Ps[k].length c) Ps[k]) (hok:∀ k (h:k<Ps.length),zne Ps[k]) :
  zC 61 #[.slice (some ⟨b,o,none⟩) Ps.length cap] w fun e w'=>∃ v',e=.returned v'/\Row w' 84 3 w.heap.size w'.heap.size v' (zec Ps Ps.length).length (mis (zec Ps Ps.length))/\zB w w':=by
 have HP:=zaa hP;have OK:=zaa hok;have LE:=zaa (fun k=>yaaz Ps k (fun P hP=>by obtain⟨i,hi,rfl⟩:=List.getElem_of_mem hP;exact(hok i hi).1));clear hP hok;go_enter Tryz.func61,Tryz.ntmps61;go_wp2
 go_loopw [3,5,6,8,9,10,13] (fun vL _ _ _ _ _ i wr=>∃ k:Nat,k<=Ps.length/\i=.I k/\Hid (wr.ownsRow w.heap.size 84 3 vL (zec Ps k).length (mis (zec Ps k))/\zB w wr)/\w.heap.size<=wr.heap.size) (fun _ _ _ _ _ _ i _=>Ps.length-(intOf i).toNat)
 case atStart=>exact⟨0,by omega,rfl,⟨by rw[zty];exact World.ownsRow_nil _ _ _ _,zR⟩,Nat.le_refl _⟩
 case round =>
  obtain⟨k,hk,rfl,I,hz⟩:=hrel
  by_cases hlt:k<Ps.length
  ·obtain⟨aS,cS,hcell,hrd⟩:=HP.o k hlt;have d0:=(I.o.2.cell (p:=⟨b,o+k,none⟩) hb).trans hcell;have RS:=zaa hrd;have PO:=zaa (OK.o k hlt);have NX:=zaa (zui Ps k hlt);have hle:=LE.o k;have hsl:Ps[k].length<=50:=PO.o.1
   have k0:(0:Int)<=(k:Int):=by omega
   have k1:(k:Int)<(Ps.length:Int):=by omega
   obtain⟨aS',cS',e',-,hcS⟩:=hrd.shape
   cases e'
   have CS:=zaa hcS;clear hcell hrd hcS;generalize Ps[k]=S at *
   have J0:Hid (PlI w wr u3 (.N) (zec Ps k) (atsM S 0)):=⟨I.o.1,World.ownsRow_nil _ _ _ _,I.o.2,hz⟩
   go_wp2
   go_loopw [6,8,19] (fun vP _ i wq=>∃ j:Nat,j<=S.length/\i=.I j/\Hid (PlI w wq u3 vP (zec Ps k) (atsM S j))) (fun _ _ i _=>S.length-(intOf i).toNat)
   case atStart=>exact⟨0,by omega,rfl,J0⟩
   case round =>
    obtain⟨j,hj,rfl,J⟩:=hrel;clear J0;have hzq:=J.o.z;have hpl:=yaqr S j
    by_cases hlj:j<S.length
    ·obtain⟨bS,oS,rfl,hbS,hcS⟩:=CS.o (by omega);obtain⟨g0,g1,g2⟩:=hcS j hlj;have e0:=(J.o.b.cell (p:=⟨bS,oS+j*3,none⟩) hbS).trans g0;have e1:=(J.o.b.cell (p:=⟨bS,oS+j*3+1,none⟩) hbS).trans g1;have e2:=(J.o.b.cell (p:=⟨bS,oS+j*3+2,none⟩) hbS).trans g2;have TN:=zaa (yapy S j hlj)
     have j0:(0:Int)<=(j:Int):=by omega
     have j1:(j:Int)<(S.length:Int):=by omega
     clear g0 g1 g2 hcS;generalize S[j].kind=mk at *;generalize S[j].at_=ma at *;generalize S[j].val=mv at *;have J1:=zaa (J.o.below ((Below.refl wr.heap.size wr).alloc zL (.cells #[.I mk,.I ma,.I mv] 84)));have J2:=zaa (J1.o.below (zR.alloc zL (.cells #[.I ma] 3)));have RD:=zaa (zkv (wr.alloc (.cells #[.I mk,.I ma,.I mv] 84)) ma)
     have RD':RdI ((wr.alloc (.cells #[.I mk,.I ma,.I mv] 84)).alloc (.cells #[.I ma] 3)) (.slice (some ⟨wr.heap.size+1,0,none⟩) 1 1) [ma]:=by simpa using RD.o
     have RD':=zaa RD';clear RD J1;go_wp2_with (at_builtin;refine zae _ rfl (.tmp 23) (.tmp 26) 23 rfl w.heap.size 3 (.I 0) 1 8 Tryz.underlying23 zim rfl (by decide) _ _ _ rfl J2.o.p _ 1 _ rfl RD'.o (zeg _) (by simp[maxLen];omega) (by omega) (by simp;omega) ?_);intro vN wN hownN hgrN;have G:=zaa (J2.o.growP [ma] hownN hgrN);clear hownN hgrN J2 RD';go_wp2
     go_roundw
     case rel=>exact⟨j+1,by omega,by go_num,by rw[TN.o];exact G⟩
     case measure=>simp[intOf];omega
    ·have ej:=yauj S j (by omega);rw[ej]at J;have FP:=zaa (yavw PO.o);have hfl:=zbi (zra S)
     have hml:(zra S).length<=50:=by rw[zvb];exact hsl
     obtain⟨aP,cP,hvP⟩:=RdI.form (zad J.o.p).rd rfl;subst hvP;have RSr:=zaa (Rd.below RS.o J.o.b);clear ej;go_wp2_with fail;refine(znk _ (zra S) _ (zad J.o.p).rd (by omega)).mono ?_;rw[FP.o.1,FP.o.2];rintro e w1 ⟨v1,rfl,hr1,hb1⟩;have J1:=zaa (J.o.below hb1);have R1:=zaa hr1;have RS1:=zaa (Rd.below RSr.o hb1);obtain⟨a1,c1,rfl⟩:=RdM.form hr1.rd rfl;have hz1:wr.heap.size<=w1.heap.size:=hb1.size;clear hr1 hb1;go_wp2_with (at_builtin;refine zae _ rfl (.tmp 34) (.tmp 35) 32 rfl w.heap.size 84 (.agg #[.I 0,.I 0,.I 0]) 3 24 Tryz.underlying32 zbj rfl (by decide) _ (zec Ps k).length (mis (zec Ps k)) rfl J1.o.l _ S.length (mis S) rfl RS1.o (zcg _) (by simp[maxLen];omega) (by omega) (by omega) ?_);intro vA wA hownA hgrA;have JA:=zaa (J1.o.growL S hownA hgrA);have RA:=zaa (yatn R1.o.rd hgrA (fun q e1 e2=>by have h1:=(R1.o.1.lt q e1).1;have h2:=(zad J.o.l).2 q e2;omega));obtain⟨aA,cA,hvA⟩:=RdM.form (zad JA.o.l).rd (n:=(zec Ps k).length+S.length) (by simp);subst hvA
     have OA:Hid (wA.ownsRow w.heap.size 84 3 (.slice aA ((zec Ps k).length+S.length) cA) ((zec Ps k).length+S.length) (mis (zec Ps k++S))):=by have:=JA.o.l;rw[List.length_append]at this;exact this
     clear hownA hgrA;go_wp2_with (at_builtin;refine zae _ rfl (.tmp 37) (.tmp 38) 32 rfl w.heap.size 84 (.agg #[.I 0,.I 0,.I 0]) 3 24 Tryz.underlying32 zbj rfl (by decide) _ ((zec Ps k).length+S.length) (mis (zec Ps k++S)) rfl OA.o _ (zbb (zra S)).length (mis (zbb (zra S))) rfl RA.o (zcg _) (by simp[maxLen];omega) (by omega) (by have:=JA.o.z;omega) ?_);intro vB wB hownB hgrB;have JB:=zaa (JA.o.growL (zbb (zra S)) (by rw[List.length_append];exact hownB) hgrB);clear hownB hgrB;go_wp2
     go_roundw
     case rel=>exact⟨k+1,by omega,by go_num,⟨by rw[NX.o];exact JB.o.l,JB.o.b⟩,JB.o.z⟩
     case measure=>simp[intOf];omega
  ·obtain rfl:k=Ps.length:=by omega
   obtain⟨aL,cL,hvL⟩:=RdM.form (zad I.o.1).rd rfl;subst hvL;go_wp2;go_ret;exact⟨_,rfl,zad I.o.1,I.o.2⟩
theorem yasl(l:List St):zra (l.map stM)=l.map (·.at_):=by simp[zra,stM]
theorem zpo(l:List St):segM (l.map stM)=seg l:=by unfold segM seg;rw[yasl]
theorem yacx{l:List St}(h1:l.length<=50)(h2:∀ s∈l,0<=s.at_/\s.at_<336):zne (l.map stM) :=
 ⟨by simpa using h1,fun k hk=>by
  rw[List.getElem_map]
  exact h2 _ (List.getElem_mem _)⟩
theorem yafb(A B:List Mi):zec [A,B] 2=segM A++segM B:=by simp[zec]
def zld(us:List Se):List Mi:=if us.length=0 then[]else seg (jrn 0 (zdt us))++seg (cnt (us.length:Int))
def appL(us:List Se):List Mi:=if us.length=0 then[]else zis (zdt us)
theorem yahk(us:List Se):zdc (zdt us)=zld us++appL us:=by
 unfold zdc zld appL;rw[zbo]
 split<;>simp
theorem yaqk(us:List Se):(zld us).length<=4*us.length+4:=by
 unfold zld seg
 split
 ·simp
 ·have h1:=zbi ((jrn 0 (zdt us)).map (·.at_));have h2:=zbi ((cnt (us.length:Int)).map (·.at_));have h3:=zku (zdt us) 0;rw[zbo]at h3;simp only[List.length_append,List.length_map]at *;have h4:(cnt (us.length:Int)).length=1:=rfl;omega
theorem yayn(us:List Se):(appL us).length<=2*us.length+4:=by
 unfold appL
 split
 ·simp
 ·exact znj us
theorem yanu(n:Int):(cnt n).map stM=[⟨1,8,n⟩]:=rfl
theorem yaep(n:Int):zne [⟨1,8,n⟩]:=yacx (l:=cnt n) (by simp[cnt]) (fun s hs=>by rw[List.mem_singleton.1 hs];exact⟨by show(0:Int)<=8;omega,by show(8:Int)<336;omega⟩)
theorem yayf(us:List Se)(hn:us.length<=16):zne (jlM us us.length):=by
 rw[yadg];refine yacx (by rw[zku,zbo];omega) (fun s hs=>?_);have:=zrm (zdt us) 0 s hs;rw[zbo]at this;omega
theorem yayw(us:List Se)(hn:us.length<=16)(hu:∀ k (h:k<us.length),0<=us[k].at_/\us[k].at_<336):zne (apM us us.length):=by
 rw[yadm];refine yacx (by rw[zbo];omega) (fun s hs=>?_);obtain⟨q,hq,rfl⟩:=List.mem_map.1 (show s∈us.map (fun s=>up s.at_ s.val)from hs);obtain⟨i,hi,rfl⟩:=List.getElem_of_mem hq;exact hu i hi
theorem zuo{w:World}{x y:Value}{t:TypeId}:(w.alloc (.cells #[x,y] t)).cell? ⟨w.heap.size,0,none⟩=some x/\(w.alloc (.cells #[x,y] t)).cell? ⟨w.heap.size,1,none⟩=some y:=by
 obtain⟨a,b,-,-⟩:=zac (zaf (w:=w) (o:=.cells #[x,y] t) rfl);exact⟨a,b⟩
theorem zyc{w:World}{x y:Value}{t:TypeId}{A B:List Mi}{nA nB:Nat}{a1 a2:Option Addr}{c1 c2:Nat}(hx:x=.slice a1 nA c1)(hy:y=.slice a2 nB c2)(hA:A.length=nA)(hB:B.length=nB)(rA:RdM w x A)(rB:RdM w y B) :
  ∀ k (h:k<[A,B].length),∃ a c,(w.alloc (.cells #[x,y] t)).cell? ⟨w.heap.size,0+k,none⟩=some (.slice a [A,B][k].length c)/\RdM (w.alloc (.cells #[x,y] t)) (.slice a [A,B][k].length c) [A,B][k]:=by
 subst hA hB hx hy;have hb:zB w (w.alloc (.cells #[.slice a1 A.length c1,.slice a2 B.length c2] t)):=zR.alloc zL _;intro k hk
 rcases(show k=0\/k=1 by simp at hk;omega)with rfl|rfl
 ·exact⟨a1,c1,zuo.1,Rd.below rA hb⟩
 ·exact⟨a2,c2,zuo.2,Rd.below rB hb⟩
theorem yafs{A B:List Mi}(hA:zne A)(hB:zne B):∀ k (h:k<[A,B].length),zne [A,B][k]:=by
 intro k hk
 rcases(show k=0\/k=1 by simp at hk;omega)with rfl|rfl
 ·exact hA
 ·exact hB
theorem zyn(v:Value)(us:List Se)(w:World)(h:RdE w v us)(hn:us.length<=16) :
  zC 57 #[v] w fun e w'=>∃ v',e=.returned v'/\Row w' 84 3 w.heap.size w'.heap.size v' (zld us).length (mis (zld us))/\zB w w':=by
 have HR:=zaa h;obtain⟨aU,cU,rfl,_,_⟩:=h.shape;clear h
 by_cases h0:us.length=0
 ·have E:=zaa (show zld us=[]from if_pos h0)
  have h0':((us.length:Int) == 0)=true:=by rw[h0];rfl
  rw[E.o];clear h0;go_enter Tryz.func57,Tryz.ntmps57;go_wp2;go_ret;exact⟨_,rfl,Row.nil _ _ _ _ _,zR⟩
 ·have E:=zaa (show zld us=zec [jlM us us.length,[⟨1,8,(us.length:Int)⟩]] 2 by rw[yafb,yadg,<- yanu,zpo,zpo];exact if_neg h0)
  have h0':((us.length:Int) == 0)=false:=by rw[beq_eq_false_iff_ne];omega
  have PK:=zaa (yafs (yayf us hn) (yaep (us.length:Int)));rw[E.o];clear h0 E;go_enter Tryz.func57,Tryz.ntmps57;go_wp2_with fail;refine(yagw _ us _ HR.o (by omega)).mono ?_;rintro e w1 ⟨v1,rfl,hr1,hb1⟩;obtain⟨a1,c1,e1⟩:=RdM.form hr1.rd (n:=(jlM us us.length).length) rfl;generalize hA:jlM us us.length=A at *;have R1:=zaa hr1.rd;have B1:=zaa hb1;clear hr1 hb1;go_wp2_with fail;refine(zkf (us.length:Int) _).mono ?_;rintro e w2 ⟨v2,rfl,hr2,hb2⟩;obtain⟨a2,c2,e2⟩:=RdM.form hr2 (n:=1) rfl;have R2:=zaa hr2;have R1':=zaa (Rd.below R1.o hb2);have B2:=zaa (zab B1.o hb2 B1.o.size);clear hr2 hb2 R1;generalize hB:([⟨1,8,(us.length:Int)⟩]:List Mi)=B at *
  have hBl:B.length=1:=by rw[<- hB];rfl
  have PT:=zaa (zyc (t:=32) e1 e2 rfl hBl R1'.o R2.o);subst e1 e2;go_wp2_with fail;refine(zit w2.heap.size 0 2 [A,B] _ (by simp) (by simp) PT.o PK.o).mono ?_;rintro e w3 ⟨v3,rfl,hr3,hb3⟩;obtain⟨a3,c3,e3⟩:=RdM.form hr3.rd (n:=(zec [A,B] 2).length) rfl;subst e3;have hz2:=B2.o.size;have hz3:=hb3.size;have R3:=zaa hr3;have B3:=zaa (zab (B2.o.alloc hz2 _) hb3 (by simp;omega));clear hr3 hb3;go_wp2;go_ret;subst hA hB;refine⟨_,rfl,?_,B3.o⟩;refine R3.o.wide ?_ zL;simp;omega
theorem zwr(v:Value)(us:List Se)(w:World)(h:RdE w v us)(hn:us.length<=16)(hu:∀ k (h:k<us.length),0<=us[k].at_/\us[k].at_<336) :
  zC 58 #[v] w fun e w'=>∃ v',e=.returned v'/\Row w' 84 3 w.heap.size w'.heap.size v' (appL us).length (mis (appL us))/\zB w w':=by
 have HR:=zaa h;obtain⟨aU,cU,rfl,_,_⟩:=h.shape;clear h
 by_cases h0:us.length=0
 ·have E:=zaa (show appL us=[]from if_pos h0)
  have h0':((us.length:Int) == 0)=true:=by rw[h0];rfl
  rw[E.o];clear h0 hu;go_enter Tryz.func58,Tryz.ntmps58;go_wp2;go_ret;exact⟨_,rfl,Row.nil _ _ _ _ _,zR⟩
 ·have E:=zaa (show appL us=zec [apM us us.length,[⟨1,8,0⟩]] 2 by rw[yafb,yadm,<- yanu,zpo,zpo];exact if_neg h0)
  have h0':((us.length:Int) == 0)=false:=by rw[beq_eq_false_iff_ne];omega
  have PK:=zaa (yafs (yayw us hn hu) (yaep 0));rw[E.o];clear h0 E hu;go_enter Tryz.func58,Tryz.ntmps58;go_wp2_with fail;refine(yahr _ us _ HR.o (by omega)).mono ?_;rintro e w1 ⟨v1,rfl,hr1,hb1⟩;obtain⟨a1,c1,e1⟩:=RdM.form hr1.rd (n:=(apM us us.length).length) rfl;generalize hA:apM us us.length=A at *;have R1:=zaa hr1.rd;have B1:=zaa hb1;clear hr1 hb1;go_wp2_with fail;refine(zkf 0 _).mono ?_;rintro e w2 ⟨v2,rfl,hr2,hb2⟩;obtain⟨a2,c2,e2⟩:=RdM.form hr2 (n:=1) rfl;have R2:=zaa hr2;have R1':=zaa (Rd.below R1.o hb2);have B2:=zaa (zab B1.o hb2 B1.o.size);clear hr2 hb2 R1;generalize hB:([⟨1,8,0⟩]:List Mi)=B at *
  have hBl:B.length=1:=by rw[<- hB];rfl
  have PT:=zaa (zyc (t:=32) e1 e2 rfl hBl R1'.o R2.o);subst e1 e2;go_wp2_with fail;refine(zit w2.heap.size 0 2 [A,B] _ (by simp) (by simp) PT.o PK.o).mono ?_;rintro e w3 ⟨v3,rfl,hr3,hb3⟩;obtain⟨a3,c3,e3⟩:=RdM.form hr3.rd (n:=(zec [A,B] 2).length) rfl;subst e3;have hz2:=B2.o.size;have hz3:=hb3.size;have R3:=zaa hr3;have B3:=zaa (zab (B2.o.alloc hz2 _) hb3 (by simp;omega));clear hr3 hb3;go_wp2;go_ret;subst hA hB;refine⟨_,rfl,?_,B3.o⟩;refine R3.o.wide ?_ zL;simp;omega
theorem zlg(v:Value)(us:List Se)(w:World)(h:RdE w v us)(hn:us.length<=1048576) :
  zC 24 #[v] w fun e w'=>∃ v',e=.returned (.tuple #[v',.I (jpC us)])/\Row w' 84 3 w.heap.size w'.heap.size v' (jpL us).length (mis (jpL us))/\zB w w':=by
 have HR:=zaa h;obtain⟨aU,cU,rfl,_,_⟩:=h.shape;clear h
 rcases zwn us with ⟨c1,e1,e2⟩ | ⟨c1,c2,e1,e2⟩ | ⟨c1,c2,c3,e1,e2⟩ | ⟨c1,c2,c3,e1,e2⟩
 ·rw[e1,e2];clear e1 e2;go_enter Tryz.func24,Tryz.ntmps24;go_wp2;go_ret2;exact⟨_,rfl,Row.nil _ _ _ _ _,zR⟩
 ·rw[e1,e2];clear e1 e2;go_enter Tryz.func24,Tryz.ntmps24;go_wp2;go_ret2;exact⟨_,rfl,Row.nil _ _ _ _ _,zR⟩
 ·rw[e1,e2];have C3:=zaa ((yaeb us).trans c3);clear c3 e1 e2;go_enter Tryz.func24,Tryz.ntmps24;go_wp2_with (go_at_call 55;refine(zji _ us _ HR.o (by omega)).mono ?_;rw[C3.o];rintro e w1 ⟨rfl,hb1⟩);go_ret2;exact⟨_,rfl,Row.nil _ _ _ _ _,hb1⟩
 ·rw[e1,e2,yahk];have C3:=zaa ((yaeb us).trans c3);have U0:=zaa (fun k (hk:k<us.length)=>show 0<=us[k].at_/\us[k].at_<336 by have:=(of_decide_eq_true c3:∀ k (h:k<us.length),(48<=us[k].at_/\us[k].at_<336)/\0<=us[k].val/\us[k].val<1099511627776) k hk;omega);have hn1:=yaqk us;have hn2:=yayn us;clear c3 e1 e2;go_enter Tryz.func24,Tryz.ntmps24;go_wp2_with fail;refine(zji _ us _ HR.o (by omega)).mono ?_;rw[C3.o];rintro e w1 ⟨rfl,hb1⟩;have B1:=zaa hb1;have hz1:w.heap.size<=w1.heap.size:=hb1.size;clear hb1;go_wp2_with fail;refine(zyn _ us _ (Rd.below HR.o B1.o) (by omega)).mono ?_;rintro e w2 ⟨v2,rfl,hr2,hb2⟩;obtain⟨a2,c2,e2⟩:=RdM.form hr2.rd (n:=(zld us).length) rfl;have R2:=zaa hr2;have B2:=zaa (zab B1.o hb2 hz1);have hz2:w1.heap.size<=w2.heap.size:=hb2.size;clear hr2 hb2;subst e2;go_wp2_with fail;refine(zwr _ us _ (Rd.below HR.o B2.o) (by omega) U0.o).mono ?_;rintro e w3 ⟨v3,rfl,hr3,hb3⟩;obtain⟨a3,c3,e3⟩:=RdM.form hr3.rd (n:=(appL us).length) rfl;have R3:=zaa hr3.rd;have R2':=zaa ((R2.o.below hb3 zL).wide hz1 zL).1;have B3:=zaa (zab B2.o hb3 (by omega));have hz3:w2.heap.size<=w3.heap.size:=hb3.size;clear hr3 hb3 R2;subst e3;go_wp2_with (at_builtin;refine zae _ rfl (.tmp 14) (.tmp 16) 32 rfl w.heap.size 84 (.agg #[.I 0,.I 0,.I 0]) 3 24 Tryz.underlying32 zbj rfl (by decide) _ (zld us).length (mis (zld us)) rfl R2'.o _ (appL us).length (mis (appL us)) rfl R3.o (zcg _) (by simp[maxLen];omega) (by omega) (by omega) ?_);intro v4 w4 hown4 hgr4
  have O4:Hid (w4.ownsRow w.heap.size 84 3 v4 ((zld us).length+(appL us).length) (mis (zld us++appL us))):=by rw[zhc];exact hown4
  have B4:=zaa (B3.o.grown hgr4 (by omega) (fun q hq=>(R2'.o.lt q hq).1));obtain⟨a4,c4,e4⟩:=RdM.form (ps:=zld us++appL us) (by unfold RdM;rw[List.length_append];exact(zad O4.o).rd) (n:=(zld us).length+(appL us).length) (by simp);subst e4;clear hown4 hgr4;go_wp2;go_ret2;refine⟨_,rfl,?_,B4.o⟩;rw[List.length_append];exact zad O4.o
end Go.Proofs.YtdiaiejmoocpmaaGreatDoor
