/- Several texts laid together: JiH, JiI. -/
import Derived.Test.YtehnphoeplmpdaaGreatDoorZBQ
import Derived.Test.YtehnphoeplmpdaaGreatDoorZBO
set_option maxRecDepth 100000
set_option maxHeartbeats 8000000
namespace Go.Proofs.YtehnphoeplmpdaaGreatDoor
open Go.RowKit
def atsM (S:List Mi) (j:Nat):List Int:=(S.take j).map (·.at_)
def zpq (S:List Mi):List Int:=S.map (·.at_)
theorem yamn (S:List Mi) (j:Nat):(atsM S j).length≤j:=by simp[atsM];omega
theorem yahd (S:List Mi) (j:Nat) (h:j < S.length):atsM S (j+1)=atsM S j ++ [S[j].at_]:=by unfold atsM;rw[List.take_succ_eq_append_getElem h,List.map_append];rfl
theorem yakr (S:List Mi) (j:Nat) (h:S.length≤j):atsM S j=zpq S:=by unfold atsM zpq;rw[List.take_of_length_le h]
theorem ztc (S:List Mi):(zpq S).length=S.length:=by simp[zpq]
def segM (S:List Mi):List Mi:=S ++ zbf (zpq S)
def zcz:List (List Mi)→Nat→List Mi
 | [],_=>[]
 | _ :: _,0=>[]
 | P :: Ps,k+1=>segM P ++ zcz Ps k
theorem zrm (Ps:List (List Mi)):zcz Ps 0=[]:=by cases Ps <;> rfl
theorem zrf:∀ (Ps:List (List Mi)) (k:Nat) (h:k < Ps.length),zcz Ps (k+1)=zcz Ps k ++ Ps[k] ++ zbf (zpq Ps[k])
 | [],k,h=>absurd h (by simp)
 | P :: Ps,0,h=>by simp[zcz,zrm,segM]
 | P :: Ps,k+1,h=>by
   have:=zrf Ps k (by simpa using h);simp only[zcz,List.getElem_cons_succ];rw[this];simp
def zkx (S:List Mi):Prop:=S.length≤50∧∀ k (h:k < S.length),0≤S[k].at_∧S[k].at_ < 336
theorem yaow {S:List Mi} (h:zkx S):flC (zpq S)=0∧fpL (zpq S)=zbf (zpq S):=by
 have hl:(zpq S).length=S.length:=ztc S
 rcases yabf (zpq S) with ⟨c,_⟩ | ⟨_,c,_⟩ | ⟨_,_,c,_⟩ | ⟨_,_,_,c⟩
 ·have:=h.1;omega
 ·have:=h.1;omega
 ·have:allP (zpq S)=true:=decide_eq_true (fun k hk=>by simp only[zpq,List.getElem_map];exact h.2 k (by omega));rw[this] at c;cases c
 ·exact c
theorem zxi:∀ (Ps:List (List Mi)) (k:Nat),(∀ P∈Ps,P.length≤50)→(zcz Ps k).length≤102*k
 | [],k,_=>by simp[zcz]
 | _ :: _,0,_=>by simp[zcz]
 | P :: Ps,k+1,h=>by
   have h1:=zxi Ps k (fun Q hQ=>h Q (List.mem_cons_of_mem _ hQ));have h2:=h P List.mem_cons_self;have h3:=zbl (zpq P);simp only[zcz,segM,List.length_append];rw[ztc] at h3;omega
theorem yald {a b:World} {size:Nat} {v r:Value} {n:Nat} {xs:List Value} (h:Rd a size v n xs) (hg:a.grownBy b r.ownBlock) (hne:∀ q,v.ownBlock=some q→r.ownBlock=some q→False):Rd b size v n xs :=
 h.same hg.size (fun q hq e=>hg.block q hq (fun e'=>hne q e e'.symm))
theorem zhn (b o cap:Nat) (Ps:List (List Mi)) (w:World) (hb:b < w.heap.size) (hn:Ps.length≤1000)
  (hP:∀ k (h:k < Ps.length),∃ a c,w.cell? ⟨b,o+k,none⟩=some (.slice a Ps[k].length c)∧RdM w (.slice a Ps[k].length c) Ps[k]) (hok:∀ k (h:k < Ps.length),zkx Ps[k]) :
  Calls Tryz.prog 249 #[.slice (some ⟨b,o,none⟩) Ps.length cap] w fun e w'=>∃ v',e=.returned v'∧Row w' 98 3 w.heap.size w'.heap.size v' (zcz Ps Ps.length).length (mis (zcz Ps Ps.length))∧Below w.heap.size w w':=by
 have HP:=zaa hP;have OK:=zaa hok;have LE:=zaa (fun k=>zxi Ps k (fun P hP=>by obtain ⟨i,hi,rfl⟩:=List.getElem_of_mem hP;exact (hok i hi).1));clear hP hok;go_enter Tryz.func249,Tryz.ntmps249;go_wp2
 go_loopw [3,5,6,8,9,10,13] (fun vL _ _ _ _ _ i wr=>∃ k:Nat,k≤Ps.length∧i=.int .i64 k∧Hid (wr.ownsRow w.heap.size 98 3 vL (zcz Ps k).length (mis (zcz Ps k))∧Below w.heap.size w wr)∧w.heap.size≤wr.heap.size) (fun _ _ _ _ _ _ i _=>Ps.length - (intOf i).toNat)
 case atStart=>exact ⟨0,by omega,rfl,⟨by rw[zrm];exact World.ownsRow_nil _ _ _ _,Below.refl _ _⟩,Nat.le_refl _⟩
 case round =>
  obtain ⟨k,hk,rfl,I,hz⟩:=hrel
  by_cases hlt:k < Ps.length
  ·obtain ⟨aS,cS,hcell,hrd⟩:=HP.o k hlt;have d0:=(I.o.2.cell (p:=⟨b,o+k,none⟩) hb).trans hcell;have RS:=zaa hrd;have PO:=zaa (OK.o k hlt);have NX:=zaa (zrf Ps k hlt);have hle:=LE.o k;have hsl:Ps[k].length≤50:=PO.o.1
   have k0:(0:Int)≤(k:Int):=by omega
   have k1:(k:Int) < (Ps.length:Int):=by omega
   obtain ⟨aS',cS',e',-,hcS⟩:=hrd.shape
   cases e'
   have CS:=zaa hcS;clear hcell hrd hcS;generalize Ps[k]=S at *
   have J0:Hid (PlI w wr u3 (.slice none 0 0) (zcz Ps k) (atsM S 0)):=⟨I.o.1,World.ownsRow_nil _ _ _ _,I.o.2,hz⟩
   go_wp2
   go_loopw [6,8,19] (fun vP _ i wq=>∃ j:Nat,j≤S.length∧i=.int .i64 j∧Hid (PlI w wq u3 vP (zcz Ps k) (atsM S j))) (fun _ _ i _=>S.length - (intOf i).toNat)
   case atStart=>exact ⟨0,by omega,rfl,J0⟩
   case round =>
    obtain ⟨j,hj,rfl,J⟩:=hrel;clear J0;have hzq:=J.o.z;have hpl:=yamn S j
    by_cases hlj:j < S.length
    ·obtain ⟨bS,oS,rfl,hbS,hcS⟩:=CS.o (by omega);obtain ⟨g0,g1,g2⟩:=hcS j hlj;have e0:=(J.o.b.cell (p:=⟨bS,oS+j*3,none⟩) hbS).trans g0;have e1:=(J.o.b.cell (p:=⟨bS,oS+j*3+1,none⟩) hbS).trans g1;have e2:=(J.o.b.cell (p:=⟨bS,oS+j*3+2,none⟩) hbS).trans g2;have TN:=zaa (yahd S j hlj)
     have j0:(0:Int)≤(j:Int):=by omega
     have j1:(j:Int) < (S.length:Int):=by omega
     clear g0 g1 g2 hcS;generalize S[j].kind=mk at *;generalize S[j].at_=ma at *;generalize S[j].val=mv at *;have J1:=zaa (J.o.below ((Below.refl wr.heap.size wr).alloc (Nat.le_refl _) (.cells #[.int .i64 mk,.int .i64 ma,.int .i64 mv] 98)));have J2:=zaa (J1.o.below ((Below.refl _ _).alloc (Nat.le_refl _) (.cells #[.int .i64 ma] 3)));have RD:=zaa (zpf (wr.alloc (.cells #[.int .i64 mk,.int .i64 ma,.int .i64 mv] 98)) ma)
     have RD':RdI ((wr.alloc (.cells #[.int .i64 mk,.int .i64 ma,.int .i64 mv] 98)).alloc (.cells #[.int .i64 ma] 3)) (.slice (some ⟨wr.heap.size+1,0,none⟩) 1 1) [ma]:=by simpa using RD.o
     have RD':=zaa RD';clear RD J1;go_wp2_with (at_builtin;refine zag _ rfl (.tmp 23) (.tmp 26) 22 rfl w.heap.size 3 (.int .i64 0) 1 8 Tryz.underlying22 zwz rfl (by decide) _ _ _ rfl J2.o.p _ 1 _ rfl RD'.o (znf _) (by simp[maxLen];omega) (by omega) (by simp;omega) ?_);intro vN wN hownN hgrN;have G:=zaa (J2.o.growP [ma] hownN hgrN);clear hownN hgrN J2 RD';go_wp2
     go_roundw
     case rel=>exact ⟨j+1,by omega,by go_num,by rw[TN.o];exact G⟩
     case measure=>simp[intOf];omega
    ·have ej:=yakr S j (by omega);rw[ej] at J;have FP:=zaa (yaow PO.o);have hfl:=zbl (zpq S)
     have hml:(zpq S).length≤50:=by rw[ztc];exact hsl
     obtain ⟨aP,cP,hvP⟩:=RdI.form (zad J.o.p).rd rfl;subst hvP;have RSr:=zaa (Rd.below RS.o J.o.b);clear ej;go_wp2_with fail;refine (zlr _ (zpq S) _ (zad J.o.p).rd (by omega)).mono ?_;rw[FP.o.1,FP.o.2];rintro e w1 ⟨v1,rfl,hr1,hb1⟩;have J1:=zaa (J.o.below hb1);have R1:=zaa hr1;have RS1:=zaa (Rd.below RSr.o hb1);obtain ⟨a1,c1,rfl⟩:=RdM.form hr1.rd rfl;have hz1:wr.heap.size≤w1.heap.size:=hb1.size;clear hr1 hb1;go_wp2_with (at_builtin;refine zag _ rfl (.tmp 34) (.tmp 35) 35 rfl w.heap.size 98 (.agg #[.int .i64 0,.int .i64 0,.int .i64 0]) 3 24 Tryz.underlying35 zbo rfl (by decide) _ (zcz Ps k).length (mis (zcz Ps k)) rfl J1.o.l _ S.length (mis S) rfl RS1.o (zcl _) (by simp[maxLen];omega) (by omega) (by omega) ?_);intro vA wA hownA hgrA;have JA:=zaa (J1.o.growL S hownA hgrA);have RA:=zaa (yald R1.o.rd hgrA (fun q e1 e2=>by have h1:=(R1.o.1.lt q e1).1;have h2:=(zad J.o.l).2 q e2;omega));obtain ⟨aA,cA,hvA⟩:=RdM.form (zad JA.o.l).rd (n:=(zcz Ps k).length+S.length) (by simp);subst hvA
     have OA:Hid (wA.ownsRow w.heap.size 98 3 (.slice aA ((zcz Ps k).length+S.length) cA) ((zcz Ps k).length+S.length) (mis (zcz Ps k ++ S))):=by have:=JA.o.l;rw[List.length_append] at this;exact this
     clear hownA hgrA;go_wp2_with (at_builtin;refine zag _ rfl (.tmp 37) (.tmp 38) 35 rfl w.heap.size 98 (.agg #[.int .i64 0,.int .i64 0,.int .i64 0]) 3 24 Tryz.underlying35 zbo rfl (by decide) _ ((zcz Ps k).length+S.length) (mis (zcz Ps k ++ S)) rfl OA.o _ (zbf (zpq S)).length (mis (zbf (zpq S))) rfl RA.o (zcl _) (by simp[maxLen];omega) (by omega) (by have:=JA.o.z;omega) ?_);intro vB wB hownB hgrB;have JB:=zaa (JA.o.growL (zbf (zpq S)) (by rw[List.length_append];exact hownB) hgrB);clear hownB hgrB;go_wp2
     go_roundw
     case rel=>exact ⟨k+1,by omega,by go_num,⟨by rw[NX.o];exact JB.o.l,JB.o.b⟩,JB.o.z⟩
     case measure=>simp[intOf];omega
  ·obtain rfl:k=Ps.length:=by omega
   obtain ⟨aL,cL,hvL⟩:=RdM.form (zad I.o.1).rd rfl;subst hvL;go_wp2;go_ret;exact ⟨_,rfl,zad I.o.1,I.o.2⟩
theorem yajt (l:List St):zpq (l.map stM)=l.map (·.at_):=by simp[zpq,stM]
theorem znj (l:List St):segM (l.map stM)=seg l:=by unfold segM seg;rw[yajt]
theorem zyc {l:List St} (h1:l.length≤50) (h2:∀ s∈l,0≤s.at_∧s.at_ < 336):zkx (l.map stM) :=
 ⟨by simpa using h1,fun k hk=>by
  rw[List.getElem_map]
  exact h2 _ (List.getElem_mem _)⟩
theorem yaat (A B:List Mi):zcz [A,B] 2=segM A ++ segM B:=by simp[zcz]
def zjp (us:List Se):List Mi:=if us.length=0 then [] else seg (jrn 0 (zdx us)) ++ seg (cnt (us.length:Int))
def zzw (us:List Se):List Mi:=if us.length=0 then [] else zkd (zdx us)
theorem yadc (us:List Se):zdg (zdx us)=zjp us ++ zzw us:=by
 unfold zdg zjp zzw;rw[zbw]
 split <;> simp
theorem yamh (us:List Se):(zjp us).length≤4*us.length+4:=by
 unfold zjp seg
 split
 ·simp
 ·have h1:=zbl ((jrn 0 (zdx us)).map (·.at_));have h2:=zbl ((cnt (us.length:Int)).map (·.at_));have h3:=zjl (zdx us) 0;rw[zbw] at h3;simp only[List.length_append,List.length_map] at *;have h4:(cnt (us.length:Int)).length=1:=rfl;omega
theorem yaoc (us:List Se):(zzw us).length≤2*us.length+4:=by
 unfold zzw
 split
 ·simp
 ·exact zld us
theorem yaib (n:Int):(cnt n).map stM=[⟨1,8,n⟩]:=rfl
theorem yaaq (n:Int):zkx [⟨1,8,n⟩]:=zyc (l:=cnt n) (by simp[cnt]) (fun s hs=>by rw[List.mem_singleton.1 hs];exact ⟨by show (0:Int)≤8;omega,by show (8:Int) < 336;omega⟩)
theorem yaod (us:List Se) (hn:us.length≤16):zkx (jlM us us.length):=by
 rw[zyz];refine zyc (by rw[zjl,zbw];omega) (fun s hs=>?_);have:=zpk (zdx us) 0 s hs;rw[zbw] at this;omega
theorem yaqe (us:List Se) (hn:us.length≤16) (hu:∀ k (h:k < us.length),0≤us[k].at_∧us[k].at_ < 336):zkx (apM us us.length):=by
 rw[zzb];refine zyc (by rw[zbw];omega) (fun s hs=>?_);obtain ⟨q,hq,rfl⟩:=List.mem_map.1 (show s∈us.map (fun s=>up s.at_ s.val) from hs);obtain ⟨i,hi,rfl⟩:=List.getElem_of_mem hq;exact hu i hi
theorem zri {w:World} {x y:Value} {t:TypeId}:(w.alloc (.cells #[x,y] t)).cell? ⟨w.heap.size,0,none⟩=some x∧(w.alloc (.cells #[x,y] t)).cell? ⟨w.heap.size,1,none⟩=some y:=by
 obtain ⟨a,b,-,-⟩:=zac (zah (w:=w) (o:=.cells #[x,y] t) rfl);exact ⟨a,b⟩
theorem zug {w:World} {x y:Value} {t:TypeId} {A B:List Mi} {nA nB:Nat} {a1 a2:Option Addr} {c1 c2:Nat} (hx:x=.slice a1 nA c1) (hy:y=.slice a2 nB c2) (hA:A.length=nA) (hB:B.length=nB) (rA:RdM w x A) (rB:RdM w y B) :
  ∀ k (h:k < [A,B].length),∃ a c,(w.alloc (.cells #[x,y] t)).cell? ⟨w.heap.size,0+k,none⟩=some (.slice a [A,B][k].length c)∧RdM (w.alloc (.cells #[x,y] t)) (.slice a [A,B][k].length c) [A,B][k]:=by
 subst hA hB hx hy;have hb:Below w.heap.size w (w.alloc (.cells #[.slice a1 A.length c1,.slice a2 B.length c2] t)):=(Below.refl _ _).alloc (Nat.le_refl _) _;intro k hk
 rcases (show k=0∨k=1 by simp at hk;omega) with rfl | rfl
 ·exact ⟨a1,c1,zri.1,Rd.below rA hb⟩
 ·exact ⟨a2,c2,zri.2,Rd.below rB hb⟩
theorem yabm {A B:List Mi} (hA:zkx A) (hB:zkx B):∀ k (h:k < [A,B].length),zkx [A,B][k]:=by
 intro k hk
 rcases (show k=0∨k=1 by simp at hk;omega) with rfl | rfl
 ·exact hA
 ·exact hB
theorem zvj (v:Value) (us:List Se) (w:World) (h:RdE w v us) (hn:us.length≤16) :
  Calls Tryz.prog 190 #[v] w fun e w'=>∃ v',e=.returned v'∧Row w' 98 3 w.heap.size w'.heap.size v' (zjp us).length (mis (zjp us))∧Below w.heap.size w w':=by
 have HR:=zaa h;obtain ⟨aU,cU,rfl,_,_⟩:=h.shape;clear h
 by_cases h0:us.length=0
 ·have E:=zaa (show zjp us=[] from if_pos h0)
  have h0':((us.length:Int) == 0)=true:=by rw[h0];rfl
  rw[E.o];clear h0;go_enter Tryz.func190,Tryz.ntmps190;go_wp2;go_ret;exact ⟨_,rfl,Row.nil _ _ _ _ _,Below.refl _ _⟩
 ·have E:=zaa (show zjp us=zcz [jlM us us.length,[⟨1,8,(us.length:Int)⟩]] 2 by rw[yaat,zyz,← yaib,znj,znj];exact if_neg h0)
  have h0':((us.length:Int) == 0)=false:=by rw[beq_eq_false_iff_ne];omega
  have PK:=zaa (yabm (yaod us hn) (yaaq (us.length:Int)));rw[E.o];clear h0 E;go_enter Tryz.func190,Tryz.ntmps190;go_wp2_with fail;refine (yadi _ us _ HR.o (by omega)).mono ?_;rintro e w1 ⟨v1,rfl,hr1,hb1⟩;obtain ⟨a1,c1,e1⟩:=RdM.form hr1.rd (n:=(jlM us us.length).length) rfl;generalize hA:jlM us us.length=A at *;have R1:=zaa hr1.rd;have B1:=zaa hb1;clear hr1 hb1;go_wp2_with fail;refine (ziy (us.length:Int) _).mono ?_;rintro e w2 ⟨v2,rfl,hr2,hb2⟩;obtain ⟨a2,c2,e2⟩:=RdM.form hr2 (n:=1) rfl;have R2:=zaa hr2;have R1':=zaa (Rd.below R1.o hb2);have B2:=zaa (zab B1.o hb2 B1.o.size);clear hr2 hb2 R1;generalize hB:([⟨1,8,(us.length:Int)⟩]:List Mi)=B at *
  have hBl:B.length=1:=by rw[← hB];rfl
  have PT:=zaa (zug (t:=35) e1 e2 rfl hBl R1'.o R2.o);subst e1 e2;go_wp2_with fail;refine (zhn w2.heap.size 0 2 [A,B] _ (by simp) (by simp) PT.o PK.o).mono ?_;rintro e w3 ⟨v3,rfl,hr3,hb3⟩;obtain ⟨a3,c3,e3⟩:=RdM.form hr3.rd (n:=(zcz [A,B] 2).length) rfl;subst e3;have hz2:=B2.o.size;have hz3:=hb3.size;have R3:=zaa hr3;have B3:=zaa (zab (B2.o.alloc hz2 _) hb3 (by simp;omega));clear hr3 hb3;go_wp2;go_ret;subst hA hB;refine ⟨_,rfl,?_,B3.o⟩;refine R3.o.wide ?_ (Nat.le_refl _);simp;omega
theorem zss (v:Value) (us:List Se) (w:World) (h:RdE w v us) (hn:us.length≤16) (hu:∀ k (h:k < us.length),0≤us[k].at_∧us[k].at_ < 336) :
  Calls Tryz.prog 191 #[v] w fun e w'=>∃ v',e=.returned v'∧Row w' 98 3 w.heap.size w'.heap.size v' (zzw us).length (mis (zzw us))∧Below w.heap.size w w':=by
 have HR:=zaa h;obtain ⟨aU,cU,rfl,_,_⟩:=h.shape;clear h
 by_cases h0:us.length=0
 ·have E:=zaa (show zzw us=[] from if_pos h0)
  have h0':((us.length:Int) == 0)=true:=by rw[h0];rfl
  rw[E.o];clear h0 hu;go_enter Tryz.func191,Tryz.ntmps191;go_wp2;go_ret;exact ⟨_,rfl,Row.nil _ _ _ _ _,Below.refl _ _⟩
 ·have E:=zaa (show zzw us=zcz [apM us us.length,[⟨1,8,0⟩]] 2 by rw[yaat,zzb,← yaib,znj,znj];exact if_neg h0)
  have h0':((us.length:Int) == 0)=false:=by rw[beq_eq_false_iff_ne];omega
  have PK:=zaa (yabm (yaqe us hn hu) (yaaq 0));rw[E.o];clear h0 E hu;go_enter Tryz.func191,Tryz.ntmps191;go_wp2_with fail;refine (yadl _ us _ HR.o (by omega)).mono ?_;rintro e w1 ⟨v1,rfl,hr1,hb1⟩;obtain ⟨a1,c1,e1⟩:=RdM.form hr1.rd (n:=(apM us us.length).length) rfl;generalize hA:apM us us.length=A at *;have R1:=zaa hr1.rd;have B1:=zaa hb1;clear hr1 hb1;go_wp2_with fail;refine (ziy 0 _).mono ?_;rintro e w2 ⟨v2,rfl,hr2,hb2⟩;obtain ⟨a2,c2,e2⟩:=RdM.form hr2 (n:=1) rfl;have R2:=zaa hr2;have R1':=zaa (Rd.below R1.o hb2);have B2:=zaa (zab B1.o hb2 B1.o.size);clear hr2 hb2 R1;generalize hB:([⟨1,8,0⟩]:List Mi)=B at *
  have hBl:B.length=1:=by rw[← hB];rfl
  have PT:=zaa (zug (t:=35) e1 e2 rfl hBl R1'.o R2.o);subst e1 e2;go_wp2_with fail;refine (zhn w2.heap.size 0 2 [A,B] _ (by simp) (by simp) PT.o PK.o).mono ?_;rintro e w3 ⟨v3,rfl,hr3,hb3⟩;obtain ⟨a3,c3,e3⟩:=RdM.form hr3.rd (n:=(zcz [A,B] 2).length) rfl;subst e3;have hz2:=B2.o.size;have hz3:=hb3.size;have R3:=zaa hr3;have B3:=zaa (zab (B2.o.alloc hz2 _) hb3 (by simp;omega));clear hr3 hb3;go_wp2;go_ret;subst hA hB;refine ⟨_,rfl,?_,B3.o⟩;refine R3.o.wide ?_ (Nat.le_refl _);simp;omega
theorem zey (v:Value) (us:List Se) (w:World) (h:RdE w v us) (hn:us.length≤1048576) :
  Calls Tryz.prog 103 #[v] w fun e w'=>∃ v',e=.returned (.tuple #[v',.int .i64 (jpC us)])∧Row w' 98 3 w.heap.size w'.heap.size v' (jpL us).length (mis (jpL us))∧Below w.heap.size w w':=by
 have HR:=zaa h;obtain ⟨aU,cU,rfl,_,_⟩:=h.shape;clear h
 rcases znl us with ⟨c1,e1,e2⟩ | ⟨c1,c2,e1,e2⟩ | ⟨c1,c2,c3,e1,e2⟩ | ⟨c1,c2,c3,e1,e2⟩
 ·rw[e1,e2];clear e1 e2;go_enter Tryz.func103,Tryz.ntmps103;go_wp2;go_ret2;exact ⟨_,rfl,Row.nil _ _ _ _ _,Below.refl _ _⟩
 ·rw[e1,e2];clear e1 e2;go_enter Tryz.func103,Tryz.ntmps103;go_wp2;go_ret2;exact ⟨_,rfl,Row.nil _ _ _ _ _,Below.refl _ _⟩
 ·rw[e1,e2];have C3:=zaa ((yaal us).trans c3);clear c3 e1 e2;go_enter Tryz.func103,Tryz.ntmps103;go_wp2_with (go_at_call 188;refine (zhl _ us _ HR.o (by omega)).mono ?_;rw[C3.o];rintro e w1 ⟨rfl,hb1⟩);go_ret2;exact ⟨_,rfl,Row.nil _ _ _ _ _,hb1⟩
 ·rw[e1,e2,yadc];have C3:=zaa ((yaal us).trans c3);have U0:=zaa (fun k (hk:k < us.length)=>show 0≤us[k].at_∧us[k].at_ < 336 by have:=(of_decide_eq_true c3:∀ k (h:k < us.length),(48≤us[k].at_∧us[k].at_ < 336)∧0≤us[k].val∧us[k].val < 1099511627776) k hk;omega);have hn1:=yamh us;have hn2:=yaoc us;clear c3 e1 e2;go_enter Tryz.func103,Tryz.ntmps103;go_wp2_with fail;refine (zhl _ us _ HR.o (by omega)).mono ?_;rw[C3.o];rintro e w1 ⟨rfl,hb1⟩;have B1:=zaa hb1;have hz1:w.heap.size≤w1.heap.size:=hb1.size;clear hb1;go_wp2_with fail;refine (zvj _ us _ (Rd.below HR.o B1.o) (by omega)).mono ?_;rintro e w2 ⟨v2,rfl,hr2,hb2⟩;obtain ⟨a2,c2,e2⟩:=RdM.form hr2.rd (n:=(zjp us).length) rfl;have R2:=zaa hr2;have B2:=zaa (zab B1.o hb2 hz1);have hz2:w1.heap.size≤w2.heap.size:=hb2.size;clear hr2 hb2;subst e2;go_wp2_with fail;refine (zss _ us _ (Rd.below HR.o B2.o) (by omega) U0.o).mono ?_;rintro e w3 ⟨v3,rfl,hr3,hb3⟩;obtain ⟨a3,c3,e3⟩:=RdM.form hr3.rd (n:=(zzw us).length) rfl;have R3:=zaa hr3.rd;have R2':=zaa ((R2.o.below hb3 (Nat.le_refl _)).wide hz1 (Nat.le_refl _)).1;have B3:=zaa (zab B2.o hb3 (by omega));have hz3:w2.heap.size≤w3.heap.size:=hb3.size;clear hr3 hb3 R2;subst e3;go_wp2_with (at_builtin;refine zag _ rfl (.tmp 14) (.tmp 16) 35 rfl w.heap.size 98 (.agg #[.int .i64 0,.int .i64 0,.int .i64 0]) 3 24 Tryz.underlying35 zbo rfl (by decide) _ (zjp us).length (mis (zjp us)) rfl R2'.o _ (zzw us).length (mis (zzw us)) rfl R3.o (zcl _) (by simp[maxLen];omega) (by omega) (by omega) ?_);intro v4 w4 hown4 hgr4
  have O4:Hid (w4.ownsRow w.heap.size 98 3 v4 ((zjp us).length+(zzw us).length) (mis (zjp us ++ zzw us))):=by rw[zgh];exact hown4
  have B4:=zaa (B3.o.grown hgr4 (by omega) (fun q hq=>(R2'.o.lt q hq).1));obtain ⟨a4,c4,e4⟩:=RdM.form (ps:=zjp us ++ zzw us) (by unfold RdM;rw[List.length_append];exact (zad O4.o).rd) (n:=(zjp us).length+(zzw us).length) (by simp);subst e4;clear hown4 hgr4;go_wp2;go_ret2;refine ⟨_,rfl,?_,B4.o⟩;rw[List.length_append];exact zad O4.o
end Go.Proofs.YtehnphoeplmpdaaGreatDoor
