/- Several texts laid together: JiG, JiH, JiI, JlB. -/
import Derived.Test.YtahiphgmhndgaaaGreatDoorZBF
import Derived.Test.YtahiphgmhndgaaaGreatDoorZBA
import Derived.Test.YtahiphgmhndgaaaGreatDoorZAX
import Derived.Test.YtahiphgmhndgaaaGreatDoorZBD
import Derived.Test.YtahiphgmhndgaaaGreatDoorZAE
import Derived.Deep.RegionHeld3
set_option maxRecDepth 100000
set_option maxHeartbeats 8000000
namespace Go.Proofs.YtahiphgmhndgaaaGreatDoor
open Go.RowKit
def upB (s:Se):Bool:=decide ((48≤s.at_∧s.at_ < 336)∧0≤s.val∧s.val < 1099511627776)
def zwf (ps:List Se):Bool:=decide (∀ k (h:k < ps.length),upB ps[k]=true)
theorem yael {ps:List Se} (h:zwf ps=true):∀ k (h:k < ps.length),upB ps[k]=true:=of_decide_eq_true h
theorem yaqb {ps:List Se} (h:∀ k (h:k < ps.length),upB ps[k]=true):zwf ps=true:=decide_eq_true h
theorem yama {ps:List Se} {k:Nat} (hk:k < ps.length) (h:upB ps[k]=false):zwf ps=false:=decide_eq_false (fun x=>by have:=x k hk;rw[h] at this;cases this)
theorem yadp (us:List Se):zwf us=upsB us:=by
 unfold zwf upsB;rw[decide_eq_decide];exact ⟨fun h k hk=>of_decide_eq_true (h k hk),fun h k hk=>decide_eq_true (h k hk)⟩
theorem zmq (s:Se) (w:World):Calls Tryz.prog 142 #[.agg #[.int .i64 s.at_,.int .i64 s.val]] w fun e w'=>e=.returned (.bool (upB s))∧Below w.heap.size w w':=by
 obtain ⟨a,x⟩:=s;simp only;have hb0:Below w.heap.size w (w.alloc (.cells #[.int .i64 a,.int .i64 x] 156)):=(Below.refl _ _).alloc (Nat.le_refl _) _
 by_cases c1:48≤a
 case neg =>
  have E:=zaa (show upB ⟨a,x⟩=false from decide_eq_false (fun h=>c1 h.1.1));go_enter Tryz.func142,Tryz.ntmps142;go_wp2;go_ret;exact ⟨zae E.o.symm,hb0⟩
 by_cases c2:zbk a=true
 case neg =>
  have c2':zbk a=false:=by simpa using c2
  have E:=zaa (show upB ⟨a,x⟩=false from decide_eq_false (fun h=>c2 (decide_eq_true ⟨by omega,h.1.2⟩)));have C2:=zaa c2';clear c2 c2';go_enter Tryz.func142,Tryz.ntmps142;go_wp2_with (go_at_call 171;refine (zcs _ _).mono ?_;rw[C2.o];rintro e w' ⟨rfl,rfl⟩);go_ret;exact ⟨zae E.o.symm,hb0⟩
 have E:=zaa (show upB ⟨a,x⟩=zao x by
  unfold upB zao;rw[decide_eq_decide];have:=zfq c2;simp only
  omega)
 have C2:=zaa c2;clear c2;go_enter Tryz.func142,Tryz.ntmps142;go_wp2_with (first | (go_at_call 171;refine (zcs _ _).mono ?_;rw[C2.o];rintro e w' ⟨rfl,rfl⟩) | (go_at_call 166;refine (zcm _ _).mono ?_;rintro e w' ⟨rfl,rfl⟩));go_ret;exact ⟨zae E.o.symm,hb0⟩
theorem zij (v:Value) (ps:List Se) (w:World) (h:RdE w v ps) (hn:ps.length≤1048576) :
  Calls Tryz.prog 141 #[v,.func (.func 142) #[] #[]] w fun e w'=>e=.returned (.bool (zwf ps))∧Below w.heap.size w w':=by
 obtain ⟨aP,cP,rfl,_,hcP⟩:=h.shape;clear h;go_enter Tryz.func141,Tryz.ntmps141;go_wp2
 go_loopw [6,9] (fun _ i wr=>∃ k:Nat,k≤ps.length∧i=.int .i64 k∧Hid (∀ j (h:j < ps.length),j < k→upB ps[j]=true)∧Below w.heap.size w wr) (fun _ i _=>ps.length - (intOf i).toNat)
 case atStart=>exact ⟨0,by omega,rfl,fun j h a=>absurd a (by omega),Below.refl _ _⟩
 case round =>
  obtain ⟨m,hm,rfl,H,hbw⟩:=hrel;have hz:=hbw.size
  by_cases hlt2:m < ps.length
  ·obtain ⟨b2,o2,rfl,hbl2,hcell2⟩:=hcP (by omega);obtain ⟨d0,d1⟩:=hcell2 m hlt2;have e0:=(hbw.cell (p:=⟨b2,o2+m*2,none⟩) hbl2).trans d0;have e1:=(hbw.cell (p:=⟨b2,o2+m*2+1,none⟩) hbl2).trans d1;have hb1:=zaa (hbw.alloc hz (.cells #[.int .i64 ps[m].at_,.int .i64 ps[m].val] 156));clear d0 d1 hcell2 hcP
   by_cases q:upB ps[m]=true
   ·have Q:=zaa q;clear q;go_wp2_with (go_at_call 142;refine (zmq ps[m] _).mono ?_;rw[Q.o];rintro e w' ⟨rfl,hw'⟩);have hw2:=hb1.o.trans (hw'.mono (by simp;omega));clear hb1 hw'
    go_roundw
    case rel =>
     refine ⟨m+1,by omega,by go_num,fun j h a=>?_,hw2⟩
     by_cases e:j=m
     ·subst e;exact Q.o
     ·exact H.o j h (by omega)
    case measure=>simp[intOf];omega
   ·have Q:=zaa (show upB ps[m]=false by simpa using q);have E:=zaa (yama hlt2 Q.o);clear q;go_wp2_with (go_at_call 142;refine (zmq ps[m] _).mono ?_;rw[Q.o];rintro e w' ⟨rfl,hw'⟩);have hw2:=hb1.o.trans (hw'.mono (by simp;omega));go_ret;exact ⟨zae E.o.symm,hw2⟩
  ·have E:=zaa (yaqb (fun j h=>H.o j h (by omega)));go_wp2;go_ret;exact ⟨zae E.o.symm,hbw⟩
theorem zns (i:Nat) (w:World) (hi:i≤1048576):Calls Tryz.prog 140 #[.int .i64 (i:Int)] w fun e w'=>e=.returned (.int .i64 (9+2*(i:Int)))∧w'=w:=by
 go_enter Tryz.func140,Tryz.ntmps140;go_wp2;go_ret;exact ⟨rfl,rfl⟩
theorem yabm (i:Nat) (a x:Int) (w:World):Calls Tryz.prog 174 #[.int .i64 (i:Int),.agg #[.int .i64 a,.int .i64 x]] w fun e w'=>∃ v',e=.returned v'∧RdM w' v' [⟨1,a,x⟩]∧Below w.heap.size w w':=by
 have R:=zaa (zmx (w.alloc (.cells #[.int .i64 a,.int .i64 x] 156)) 1 a x);have B:Hid (Below w.heap.size w ((w.alloc (.cells #[.int .i64 a,.int .i64 x] 156)).alloc (.cells #[.int .i64 1,.int .i64 a,.int .i64 x] 98))):=((Below.refl _ _).alloc (Nat.le_refl _) _).alloc (by simp) _;go_enter Tryz.func174,Tryz.ntmps174;go_wp2;go_ret;exact ⟨_,rfl,by unfold RdM;rw[zof];simpa using R.o,B.o⟩
theorem zqv (n:Int) (w:World):Calls Tryz.prog 175 #[.int .i64 n] w fun e w'=>∃ v',e=.returned v'∧RdM w' v' [⟨1,8,n⟩]∧Below w.heap.size w w':=by
 have R:=zaa (zmx w 1 8 n);have B:Hid (Below w.heap.size w (w.alloc (.cells #[.int .i64 1,.int .i64 8,.int .i64 n] 98))):=(Below.refl _ _).alloc (Nat.le_refl _) _;go_enter Tryz.func175,Tryz.ntmps175;go_wp2;go_ret;exact ⟨_,rfl,by unfold RdM;rw[zof];simpa using R.o,B.o⟩
theorem World.ownsRow.below {w w':World} {base:Nat} {e:TypeId} {size:Nat} {v:Value} {n:Nat} {xs:List Value} (h:w.ownsRow base e size v n xs) (hb:Below w.heap.size w w'):w'.ownsRow base e size v n xs:=by
 obtain ⟨hl,h⟩:=h;refine ⟨hl,?_⟩
 rcases h with h | ⟨g,cap,cur,h1,h2,h3,h4⟩
 ·exact .inl h
 ·exact .inr ⟨g,cap,cur,h1,h2,(hb.block g (Array.getElem?_eq_some_iff.1 h3).1).trans h3,h4⟩
theorem yaez (v:Value) (us:List Se) (w:World) (h:RdE w v us) (hn:us.length≤64) :
  Calls Tryz.prog 173 #[v,.func (.func 174) #[] #[]] w fun e w'=>∃ v',e=.returned v'∧Row w' 98 3 w.heap.size w'.heap.size v' (apM us us.length).length (mis (apM us us.length))∧Below w.heap.size w w':=by
 obtain ⟨aU,cU,rfl,_,hcU⟩:=h.shape;have HU:=zaa hcU;clear h hcU;go_enter Tryz.func173,Tryz.ntmps173;go_wp2
 go_loopw [5,6,7,10] (fun vL _ _ i wr=>∃ m:Nat,m≤us.length∧i=.int .i64 m∧Hid (wr.ownsRow w.heap.size 98 3 vL (apM us m).length (mis (apM us m))∧Below w.heap.size w wr)∧w.heap.size≤wr.heap.size) (fun _ _ _ i _=>us.length - (intOf i).toNat)
 case atStart=>exact ⟨0,by omega,rfl,⟨World.ownsRow_nil _ _ _ _,Below.refl _ _⟩,Nat.le_refl _⟩
 case round =>
  obtain ⟨m,hm,rfl,I,hz⟩:=hrel
  by_cases hlt:m < us.length
  ·obtain ⟨b,o,rfl,hbl,hcell⟩:=HU.o (by omega);obtain ⟨d0,d1⟩:=hcell m hlt;have e0:=(I.o.2.cell (p:=⟨b,o+m*2,none⟩) hbl).trans d0;have e1:=(I.o.2.cell (p:=⟨b,o+m*2+1,none⟩) hbl).trans d1
   have m0:(0:Int)≤(m:Int):=by omega
   have m1:(m:Int) < (us.length:Int):=by omega
   have NX:=zaa (yack us m hlt);have hle:=yaaz us m;clear d0 d1 hcell;generalize us[m].at_=a at *;generalize us[m].val=x at *
   obtain ⟨wb,hwb⟩:∃ wb:World,wb=wr.alloc (.cells #[.int .i64 a,.int .i64 x] 156):=⟨_,rfl⟩
   have BB:Hid (Below wr.heap.size wr wb):=by rw[hwb];exact (Below.refl _ _).alloc (Nat.le_refl _) _
   have hzb:wr.heap.size≤wb.heap.size:=BB.o.size
   have OB:Hid (wb.ownsRow w.heap.size 98 3 u5 (apM us m).length (mis (apM us m))):=by rw[hwb];exact I.o.1.alloc _
   go_wp2_with (first
    | (go_at_call 174;rw[← hwb];refine (yabm m a x wb).mono ?_;rintro e w1 ⟨v1,rfl,hr1,hb1⟩;have O1:=zaa (World.ownsRow.below OB.o hb1);have R1:=zaa hr1;have B1:=zaa hb1;have hz1:wb.heap.size≤w1.heap.size:=hb1.size;obtain ⟨a1,c1,rfl,-,-⟩:=hr1.shape;clear hr1 hb1)
    | (at_builtin;refine zak _ rfl (.tmp 15) (.tmp 19) 48 rfl w.heap.size 98 (.agg #[.int .i64 0,.int .i64 0,.int .i64 0]) 3 24 Tryz.underlying48 zem rfl (by decide) _ _ _ rfl O1.o _ 1 _ rfl R1.o (zmf _) (by simp[maxLen];omega) (by omega) (by omega) ?_))
   intro vN wN hownN hgrN
   have hl:=fun q hq=>(O1.o.lt q hq).1
   have hzN:=hgrN.size
   have G:Hid (wN.ownsRow w.heap.size 98 3 vN (apM us (m+1)).length (mis (apM us (m+1)))∧Below w.heap.size w wN):=by
    refine ⟨?_,((I.o.2.trans (BB.o.mono hz)).trans (B1.o.mono (by omega))).grown hgrN (by omega) (fun q hq=>hl q hq)⟩;rw[NX.o,zsw,List.length_append];exact hownN
   clear hownN hgrN hl;go_wp2
   go_roundw
   case rel=>exact ⟨m+1,by omega,by go_num,G,by omega⟩
   case measure=>simp[intOf];omega
  ·obtain rfl:m=us.length:=by omega
   obtain ⟨aL,cL,hvL⟩:=RdM.form (zai I.o.1).rd rfl;subst hvL;go_wp2;go_ret;exact ⟨_,rfl,zai I.o.1,I.o.2⟩
def atsM (S:List Mi) (j:Nat):List Int:=(S.take j).map (·.at_)
def zqo (S:List Mi):List Int:=S.map (·.at_)
theorem yaqd (S:List Mi) (j:Nat):(atsM S j).length≤j:=by simp[atsM];omega
theorem yalk (S:List Mi) (j:Nat) (h:j < S.length):atsM S (j+1)=atsM S j ++ [S[j].at_]:=by unfold atsM;rw[List.take_succ_eq_append_getElem h,List.map_append];rfl
theorem yanx (S:List Mi) (j:Nat) (h:S.length≤j):atsM S j=zqo S:=by unfold atsM zqo;rw[List.take_of_length_le h]
theorem zvc (S:List Mi):(zqo S).length=S.length:=by simp[zqo]
def segM (S:List Mi):List Mi:=S ++ zcv (zqo S)
def zef:List (List Mi)→Nat→List Mi
 | [],_=>[]
 | _ :: _,0=>[]
 | P :: Ps,k+1=>segM P ++ zef Ps k
theorem zso (Ps:List (List Mi)):zef Ps 0=[]:=by cases Ps <;> rfl
theorem zsv:∀ (Ps:List (List Mi)) (k:Nat) (h:k < Ps.length),zef Ps (k+1)=zef Ps k ++ Ps[k] ++ zcv (zqo Ps[k])
 | [],k,h=>absurd h (by simp)
 | P :: Ps,0,h=>by simp[zef,zso,segM]
 | P :: Ps,k+1,h=>by
   have:=zsv Ps k (by simpa using h);simp only[zef,List.getElem_cons_succ];rw[this];simp
def znb (S:List Mi):Prop:=S.length≤50∧∀ k (h:k < S.length),0≤S[k].at_∧S[k].at_ < 336
theorem yasi {S:List Mi} (h:znb S):flC (zqo S)=0∧fpL (zqo S)=zcv (zqo S):=by
 have hl:(zqo S).length=S.length:=zvc S
 rcases yadj (zqo S) with ⟨c,_⟩ | ⟨_,c,_⟩ | ⟨_,_,c,_⟩ | ⟨_,_,_,c⟩
 ·have:=h.1;omega
 ·have:=h.1;omega
 ·have:allP (zqo S)=true:=decide_eq_true (fun k hk=>by simp only[zqo,List.getElem_map];exact h.2 k (by omega));rw[this] at c;cases c
 ·exact c
theorem zxa:∀ (Ps:List (List Mi)) (k:Nat),(∀ P∈Ps,P.length≤50)→(zef Ps k).length≤102*k
 | [],k,_=>by simp[zef]
 | _ :: _,0,_=>by simp[zef]
 | P :: Ps,k+1,h=>by
   have h1:=zxa Ps k (fun Q hQ=>h Q (List.mem_cons_of_mem _ hQ));have h2:=h P List.mem_cons_self;have h3:=zfl (zqo P);simp only[zef,segM,List.length_append];rw[zvc] at h3;omega
theorem yaoi {a b:World} {size:Nat} {v r:Value} {n:Nat} {xs:List Value} (h:Rd a size v n xs) (hg:a.grownBy b r.ownBlock) (hne:∀ q,v.ownBlock=some q→r.ownBlock=some q→False):Rd b size v n xs :=
 h.same hg.size (fun q hq e=>hg.block q hq (fun e'=>hne q e e'.symm))
theorem zxf (b o cap:Nat) (Ps:List (List Mi)) (w:World) (hb:b < w.heap.size) (hn:Ps.length≤1000)
  (hP:∀ k (h:k < Ps.length),∃ a c,w.cell? ⟨b,o+k,none⟩=some (.slice a Ps[k].length c)∧RdM w (.slice a Ps[k].length c) Ps[k]) (hok:∀ k (h:k < Ps.length),znb Ps[k]) :
  Calls Tryz.prog 172 #[.slice (some ⟨b,o,none⟩) Ps.length cap] w fun e w'=>∃ v',e=.returned v'∧Row w' 98 3 w.heap.size w'.heap.size v' (zef Ps Ps.length).length (mis (zef Ps Ps.length))∧Below w.heap.size w w':=by
 have HP:=zaa hP;have OK:=zaa hok;have LE:=zaa (fun k=>zxa Ps k (fun P hP=>by obtain ⟨i,hi,rfl⟩:=List.getElem_of_mem hP;exact (hok i hi).1));clear hP hok;go_enter Tryz.func172,Tryz.ntmps172;go_wp2
 go_loopw [3,5,6,8,9,10,13] (fun vL _ _ _ _ _ i wr=>∃ k:Nat,k≤Ps.length∧i=.int .i64 k∧Hid (wr.ownsRow w.heap.size 98 3 vL (zef Ps k).length (mis (zef Ps k))∧Below w.heap.size w wr)∧w.heap.size≤wr.heap.size) (fun _ _ _ _ _ _ i _=>Ps.length - (intOf i).toNat)
 case atStart=>exact ⟨0,by omega,rfl,⟨by rw[zso];exact World.ownsRow_nil _ _ _ _,Below.refl _ _⟩,Nat.le_refl _⟩
 case round =>
  obtain ⟨k,hk,rfl,I,hz⟩:=hrel
  by_cases hlt:k < Ps.length
  ·obtain ⟨aS,cS,hcell,hrd⟩:=HP.o k hlt;have d0:=(I.o.2.cell (p:=⟨b,o+k,none⟩) hb).trans hcell;have RS:=zaa hrd;have PO:=zaa (OK.o k hlt);have NX:=zaa (zsv Ps k hlt);have hle:=LE.o k;have hsl:Ps[k].length≤50:=PO.o.1
   have k0:(0:Int)≤(k:Int):=by omega
   have k1:(k:Int) < (Ps.length:Int):=by omega
   obtain ⟨aS',cS',e',-,hcS⟩:=hrd.shape
   cases e'
   have CS:=zaa hcS;clear hcell hrd hcS;generalize Ps[k]=S at *
   have J0:Hid (PlI w wr u3 (.slice none 0 0) (zef Ps k) (atsM S 0)):=⟨I.o.1,World.ownsRow_nil _ _ _ _,I.o.2,hz⟩
   go_wp2
   go_loopw [6,8,19] (fun vP _ i wq=>∃ j:Nat,j≤S.length∧i=.int .i64 j∧Hid (PlI w wq u3 vP (zef Ps k) (atsM S j))) (fun _ _ i _=>S.length - (intOf i).toNat)
   case atStart=>exact ⟨0,by omega,rfl,J0⟩
   case round =>
    obtain ⟨j,hj,rfl,J⟩:=hrel;clear J0;have hzq:=J.o.z;have hpl:=yaqd S j
    by_cases hlj:j < S.length
    ·obtain ⟨bS,oS,rfl,hbS,hcS⟩:=CS.o (by omega);obtain ⟨g0,g1,g2⟩:=hcS j hlj;have e0:=(J.o.b.cell (p:=⟨bS,oS+j*3,none⟩) hbS).trans g0;have e1:=(J.o.b.cell (p:=⟨bS,oS+j*3+1,none⟩) hbS).trans g1;have e2:=(J.o.b.cell (p:=⟨bS,oS+j*3+2,none⟩) hbS).trans g2;have TN:=zaa (yalk S j hlj)
     have j0:(0:Int)≤(j:Int):=by omega
     have j1:(j:Int) < (S.length:Int):=by omega
     clear g0 g1 g2 hcS;generalize S[j].kind=mk at *;generalize S[j].at_=ma at *;generalize S[j].val=mv at *;have J1:=zaa (J.o.below ((Below.refl wr.heap.size wr).alloc (Nat.le_refl _) (.cells #[.int .i64 mk,.int .i64 ma,.int .i64 mv] 98)));have J2:=zaa (J1.o.below ((Below.refl _ _).alloc (Nat.le_refl _) (.cells #[.int .i64 ma] 3)));have RD:=zaa (yabj (wr.alloc (.cells #[.int .i64 mk,.int .i64 ma,.int .i64 mv] 98)) ma)
     have RD':RdI ((wr.alloc (.cells #[.int .i64 mk,.int .i64 ma,.int .i64 mv] 98)).alloc (.cells #[.int .i64 ma] 3)) (.slice (some ⟨wr.heap.size+1,0,none⟩) 1 1) [ma]:=by simpa using RD.o
     have RD':=zaa RD';clear RD J1;go_wp2_with (at_builtin;refine zak _ rfl (.tmp 23) (.tmp 26) 22 rfl w.heap.size 3 (.int .i64 0) 1 8 Tryz.underlying22 zfz rfl (by decide) _ _ _ rfl J2.o.p _ 1 _ rfl RD'.o (zdw _) (by simp[maxLen];omega) (by omega) (by simp;omega) ?_);intro vN wN hownN hgrN;have G:=zaa (J2.o.growP [ma] hownN hgrN);clear hownN hgrN J2 RD';go_wp2
     go_roundw
     case rel=>exact ⟨j+1,by omega,by go_num,by rw[TN.o];exact G⟩
     case measure=>simp[intOf];omega
    ·have ej:=yanx S j (by omega);rw[ej] at J;have FP:=zaa (yasi PO.o);have hfl:=zfl (zqo S)
     have hml:(zqo S).length≤50:=by rw[zvc];exact hsl
     obtain ⟨aP,cP,hvP⟩:=RdI.form (zai J.o.p).rd rfl;subst hvP;have RSr:=zaa (Rd.below RS.o J.o.b);clear ej;go_wp2_with fail;refine (zln _ (zqo S) _ (zai J.o.p).rd (by omega)).mono ?_;rw[FP.o.1,FP.o.2];rintro e w1 ⟨v1,rfl,hr1,hb1⟩;have J1:=zaa (J.o.below hb1);have R1:=zaa hr1;have RS1:=zaa (Rd.below RSr.o hb1);obtain ⟨a1,c1,rfl⟩:=RdM.form hr1.rd rfl;have hz1:wr.heap.size≤w1.heap.size:=hb1.size;clear hr1 hb1;go_wp2_with (at_builtin;refine zak _ rfl (.tmp 34) (.tmp 35) 48 rfl w.heap.size 98 (.agg #[.int .i64 0,.int .i64 0,.int .i64 0]) 3 24 Tryz.underlying48 zem rfl (by decide) _ (zef Ps k).length (mis (zef Ps k)) rfl J1.o.l _ S.length (mis S) rfl RS1.o (zmf _) (by simp[maxLen];omega) (by omega) (by omega) ?_);intro vA wA hownA hgrA;have JA:=zaa (J1.o.growL S hownA hgrA);have RA:=zaa (yaoi R1.o.rd hgrA (fun q e1 e2=>by have h1:=(R1.o.1.lt q e1).1;have h2:=(zai J.o.l).2 q e2;omega));obtain ⟨aA,cA,hvA⟩:=RdM.form (zai JA.o.l).rd (n:=(zef Ps k).length+S.length) (by simp);subst hvA
     have OA:Hid (wA.ownsRow w.heap.size 98 3 (.slice aA ((zef Ps k).length+S.length) cA) ((zef Ps k).length+S.length) (mis (zef Ps k ++ S))):=by have:=JA.o.l;rw[List.length_append] at this;exact this
     clear hownA hgrA;go_wp2_with (at_builtin;refine zak _ rfl (.tmp 37) (.tmp 38) 48 rfl w.heap.size 98 (.agg #[.int .i64 0,.int .i64 0,.int .i64 0]) 3 24 Tryz.underlying48 zem rfl (by decide) _ ((zef Ps k).length+S.length) (mis (zef Ps k ++ S)) rfl OA.o _ (zcv (zqo S)).length (mis (zcv (zqo S))) rfl RA.o (zmf _) (by simp[maxLen];omega) (by omega) (by have:=JA.o.z;omega) ?_);intro vB wB hownB hgrB;have JB:=zaa (JA.o.growL (zcv (zqo S)) (by rw[List.length_append];exact hownB) hgrB);clear hownB hgrB;go_wp2
     go_roundw
     case rel=>exact ⟨k+1,by omega,by go_num,⟨by rw[NX.o];exact JB.o.l,JB.o.b⟩,JB.o.z⟩
     case measure=>simp[intOf];omega
  ·obtain rfl:k=Ps.length:=by omega
   obtain ⟨aL,cL,hvL⟩:=RdM.form (zai I.o.1).rd rfl;subst hvL;go_wp2;go_ret;exact ⟨_,rfl,zai I.o.1,I.o.2⟩
theorem yapw (l:List St):zqo (l.map stM)=l.map (·.at_):=by simp[zqo,stM]
theorem yado (l:List St):segM (l.map stM)=seg l:=by unfold segM seg;rw[yapw]
theorem yahb {l:List St} (h1:l.length≤50) (h2:∀ s∈l,0≤s.at_∧s.at_ < 336):znb (l.map stM) :=
 ⟨by simpa using h1,fun k hk=>by
  rw[List.getElem_map]
  exact h2 _ (List.getElem_mem _)⟩
theorem yapx (A B:List Mi):zef [A,B] 2=segM A ++ segM B:=by simp[zef]
def appL (us:List Se):List Mi:=if us.length=0 then [] else zhd (zwm us)
theorem yatr (n:Int):(cnt n).map stM=[⟨1,8,n⟩]:=rfl
theorem yapj (n:Int):znb [⟨1,8,n⟩]:=yahb (l:=cnt n) (by simp[cnt]) (fun s hs=>by rw[List.mem_singleton.1 hs];exact ⟨by show (0:Int)≤8;omega,by show (8:Int) < 336;omega⟩)
theorem yarz (us:List Se) (hn:us.length≤16) (hu:∀ k (h:k < us.length),0≤us[k].at_∧us[k].at_ < 336):znb (apM us us.length):=by
 rw[zzx];refine yahb (by rw[zio];omega) (fun s hs=>?_);obtain ⟨q,hq,rfl⟩:=List.mem_map.1 (show s∈us.map (fun s=>up s.at_ s.val) from hs);obtain ⟨i,hi,rfl⟩:=List.getElem_of_mem hq;exact hu i hi
theorem zrw {w:World} {x y:Value} {t:TypeId}:(w.alloc (.cells #[x,y] t)).cell? ⟨w.heap.size,0,none⟩=some x∧(w.alloc (.cells #[x,y] t)).cell? ⟨w.heap.size,1,none⟩=some y:=by
 obtain ⟨a,b,-,-⟩:=zad (zag (w:=w) (o:=.cells #[x,y] t) rfl);exact ⟨a,b⟩
theorem yahl {w:World} {x y:Value} {t:TypeId} {A B:List Mi} {nA nB:Nat} {a1 a2:Option Addr} {c1 c2:Nat} (hx:x=.slice a1 nA c1) (hy:y=.slice a2 nB c2) (hA:A.length=nA) (hB:B.length=nB) (rA:RdM w x A) (rB:RdM w y B) :
  ∀ k (h:k < [A,B].length),∃ a c,(w.alloc (.cells #[x,y] t)).cell? ⟨w.heap.size,0+k,none⟩=some (.slice a [A,B][k].length c)∧RdM (w.alloc (.cells #[x,y] t)) (.slice a [A,B][k].length c) [A,B][k]:=by
 subst hA hB hx hy;have hb:Below w.heap.size w (w.alloc (.cells #[.slice a1 A.length c1,.slice a2 B.length c2] t)):=(Below.refl _ _).alloc (Nat.le_refl _) _;intro k hk
 rcases (show k=0∨k=1 by simp at hk;omega) with rfl | rfl
 ·exact ⟨a1,c1,zrw.1,Rd.below rA hb⟩
 ·exact ⟨a2,c2,zrw.2,Rd.below rB hb⟩
theorem yaok {A B:List Mi} (hA:znb A) (hB:znb B):∀ k (h:k < [A,B].length),znb [A,B][k]:=by
 intro k hk
 rcases (show k=0∨k=1 by simp at hk;omega) with rfl | rfl
 ·exact hA
 ·exact hB
theorem zun (v:Value) (us:List Se) (w:World) (h:RdE w v us) (hn:us.length≤16) (hu:∀ k (h:k < us.length),0≤us[k].at_∧us[k].at_ < 336) :
  Calls Tryz.prog 143 #[v] w fun e w'=>∃ v',e=.returned v'∧Row w' 98 3 w.heap.size w'.heap.size v' (appL us).length (mis (appL us))∧Below w.heap.size w w':=by
 have HR:=zaa h;obtain ⟨aU,cU,rfl,_,_⟩:=h.shape;clear h
 by_cases h0:us.length=0
 ·have E:=zaa (show appL us=[] from if_pos h0)
  have h0':((us.length:Int) == 0)=true:=by rw[h0];rfl
  rw[E.o];clear h0 hu;go_enter Tryz.func143,Tryz.ntmps143;go_wp2;go_ret;exact ⟨_,rfl,Row.nil _ _ _ _ _,Below.refl _ _⟩
 ·have E:=zaa (show appL us=zef [apM us us.length,[⟨1,8,0⟩]] 2 by rw[yapx,zzx,← yatr,yado,yado];exact if_neg h0)
  have h0':((us.length:Int) == 0)=false:=by rw[beq_eq_false_iff_ne];omega
  have PK:=zaa (yaok (yarz us hn hu) (yapj 0));rw[E.o];clear h0 E hu;go_enter Tryz.func143,Tryz.ntmps143;go_wp2_with fail;refine (yaez _ us _ HR.o (by omega)).mono ?_;rintro e w1 ⟨v1,rfl,hr1,hb1⟩;obtain ⟨a1,c1,e1⟩:=RdM.form hr1.rd (n:=(apM us us.length).length) rfl;generalize hA:apM us us.length=A at *;have R1:=zaa hr1.rd;have B1:=zaa hb1;clear hr1 hb1;go_wp2_with fail;refine (zqv 0 _).mono ?_;rintro e w2 ⟨v2,rfl,hr2,hb2⟩;obtain ⟨a2,c2,e2⟩:=RdM.form hr2 (n:=1) rfl;have R2:=zaa hr2;have R1':=zaa (Rd.below R1.o hb2);have B2:=zaa (zab B1.o hb2 B1.o.size);clear hr2 hb2 R1;generalize hB:([⟨1,8,0⟩]:List Mi)=B at *
  have hBl:B.length=1:=by rw[← hB];rfl
  have PT:=zaa (yahl (t:=48) e1 e2 rfl hBl R1'.o R2.o);subst e1 e2;go_wp2_with fail;refine (zxf w2.heap.size 0 2 [A,B] _ (by simp) (by simp) PT.o PK.o).mono ?_;rintro e w3 ⟨v3,rfl,hr3,hb3⟩;obtain ⟨a3,c3,e3⟩:=RdM.form hr3.rd (n:=(zef [A,B] 2).length) rfl;subst e3;have hz2:=B2.o.size;have hz3:=hb3.size;have R3:=zaa hr3;have B3:=zaa (zab (B2.o.alloc hz2 _) hb3 (by simp;omega));clear hr3 hb3;go_wp2;go_ret;subst hA hB;refine ⟨_,rfl,?_,B3.o⟩;refine R3.o.wide ?_ (Nat.le_refl _);simp;omega
theorem yaqu {v:Value} {c d:Int} (h:c=d):Ending.returned (.tuple #[v,.int .i64 c])=.returned (.tuple #[v,.int .i64 d]):=by rw[h]
theorem zfe (v:Value) (ws:List Int) (w:World) (h:RdPm w v ws []) (hw:ws.length≤1048576) :
  Calls Tryz.prog 139 #[v] w fun e w'=>e=.returned (.tuple #[.int .i64 (jcV ws []),.int .i64 (jcC ws [])])∧Below w.heap.size w w':=by
 have HR:=zaa h;obtain ⟨vW,vP,rfl,h1,h2⟩:=h;have H1:=zaa h1;obtain ⟨aW,cW,rfl,_,hcW⟩:=h1.shape;obtain ⟨aP,cP,rfl,_⟩:=h2.shape;have CW:=zaa hcW;clear h1 h2 hcW;have hb0:Below w.heap.size w (w.alloc (.cells #[.slice aW ws.length cW,.slice aP ([]:List St).length cP] 40)):=(Below.refl _ _).alloc (Nat.le_refl _) _
 rcases zty ws [] with ⟨c1,e1,e2⟩ | ⟨c1,c2,e1,e2⟩ | ⟨c1,c2,e1,e2⟩
 ·rw[e1,e2];have C:=zaa c1;clear c1 e1 e2;go_enter Tryz.func139,Tryz.ntmps139;go_wp2_with fail;refine (zba _ ws [] _ (HR.o.below hb0) hw (by simp)).mono ?_;rw[C.o];rintro e w1 ⟨rfl,hb1⟩;have B1:=zaa (zab hb0 hb1 (by simp));clear hb0 hb1;go_wp2;go_ret2;exact ⟨rfl,B1.o⟩
 all_goals
  rw[e1,e2];have C:=zaa c1;have hl:=zyt c1
  have hl8:8 < ws.length:=by omega
  obtain ⟨b,o,rfl,hbl,hcell⟩:=CW.o (by omega);have d8:=hcell 8 hl8;rw[zwx hl8] at *;simp only[ziv,List.foldl_nil] at *;clear c1 e1 e2 hcell hl;generalize ws[8]=n at *;go_enter Tryz.func139,Tryz.ntmps139;go_wp2_with fail;refine (zba _ ws [] _ (HR.o.below hb0) hw (by simp)).mono ?_;rw[C.o];rintro e w1 ⟨rfl,hb1⟩;have B1:=zaa (zab hb0 hb1 (by simp));have d8':=(B1.o.cell (p:=⟨b,o+8,none⟩) hbl).trans d8;obtain ⟨x1,x2,-,-⟩:=zad ((hb1.block w.heap.size (by simp)).trans (zag rfl));clear hb0 hb1 d8;go_wp2;go_ret2;exact ⟨rfl,B1.o⟩
theorem zkp (v:Value) (ws:List Int) (w:World) (h:RdPm w v ws []) (hw:ws.length≤1048576) :
  Calls Tryz.prog 97 #[v] w fun e w'=>∃ v',e=.returned (.tuple #[v',.int .i64 (rpC ws [])])∧Row w' 98 3 w.heap.size w'.heap.size v' (rpL ws []).length (mis (rpL ws []))∧Below w.heap.size w w':=by
 have HR:=zaa h;obtain ⟨vW,vP,rfl,h1,h2⟩:=h;have H1:=zaa h1;obtain ⟨aW,cW,rfl,_,hcW⟩:=h1.shape;obtain ⟨aP,cP,rfl,_⟩:=h2.shape;have CW:=zaa hcW;clear h1 h2 hcW;have hb0:Below w.heap.size w (w.alloc (.cells #[.slice aW ws.length cW,.slice aP ([]:List St).length cP] 40)):=(Below.refl _ _).alloc (Nat.le_refl _) _
 by_cases hc:jcC ws []=0
 case neg =>
  have E:rpC ws []=jcC ws []∧rpL ws []=[]∧jcV ws []=0∧(jcC ws [] != 0)=true:=by
   rcases zty ws [] with ⟨c1,e1,e2⟩ | ⟨c1,c2,e1,e2⟩ | ⟨_,_,e1,_⟩
   ·rcases zgv ws [] with ⟨_,f1,f2⟩ | ⟨c,_⟩
    ·exact ⟨f1.trans e1.symm,f2,e2,by rw[e1];rfl⟩
    ·rw[c1] at c;cases c
   ·rcases zgv ws [] with ⟨c,_⟩ | ⟨_,N,hN,⟨_,f1,f2⟩ | ⟨q,_⟩ | ⟨_,q,_⟩ | ⟨_,q,_⟩⟩
    ·rw[c1] at c;cases c
    ·exact ⟨f1.trans e1.symm,f2,e2,by rw[e1];rfl⟩
    ·omega
    ·omega
    ·omega
   ·exact absurd e1 hc
  rw[E.1,E.2.1];have EV:=zaa E.2.2.1;have ene:=E.2.2.2;clear E hc;go_enter Tryz.func97,Tryz.ntmps97;go_wp2_with fail;refine (zfe _ ws _ (HR.o.below hb0) hw).mono ?_;rintro e w1 ⟨rfl,hb1⟩;have B1:=zaa (zab hb0 hb1 (by simp));clear hb0 hb1;go_wp2;go_ret2;exact ⟨_,rfl,Row.nil _ _ _ _ _,B1.o⟩
 obtain ⟨c1,N,hN,hN16,eV⟩:pmB ws []=true∧∃ N:Nat,ldW ws [] 8=(N:Int)∧N≤16∧jcV ws []=(N:Int):=by
  rcases zty ws [] with ⟨_,e1,_⟩ | ⟨_,_,e1,_⟩ | ⟨c1,c2,e1,e2⟩
  ·omega
  ·omega
  ·have:=yakc c1 8;exact ⟨c1,(ldW ws [] 8).toNat,by omega,by omega,by rw[e2];omega⟩
 have hl:=zyt c1
 have h64:64 < ws.length:=by omega
 have C1:=zaa c1;have JC:=zaa (And.intro eV hc)
 have RP:Hid ((zwf (rdL ws [] N)=false∧rpC ws []=3∧rpL ws []=[])∨(zwf (rdL ws [] N)=true∧rpC ws []=0∧rpL ws []=appL (rdL ws [] N))):=by
  rcases zgv ws [] with ⟨c,_⟩ | ⟨_,M,hM,hh⟩
  ·rw[c1] at c;cases c
  ·have hMN:M=N:=by omega
   subst hMN
   rcases hh with ⟨q,_⟩ | ⟨q,f1,f2⟩ | ⟨q,_,q2,f1,f2⟩ | ⟨q,_,q2,f1,f2⟩
   ·omega
   ·right;subst q;exact ⟨rfl,f1,f2.trans rfl⟩
   ·exact .inl ⟨(yadp _).trans q2,f1,f2⟩
   ·refine .inr ⟨(yadp _).trans q2,f1,f2.trans ?_⟩;unfold appL;rw[zls,if_neg (by omega)]
 have CELL:Hid (∃ b o,aW=some ⟨b,o,none⟩∧b < w.heap.size∧∀ k,k < 64→w.cell? ⟨b,o+k,none⟩=some (.int .i64 (ldW ws [] k))):=by
  obtain ⟨b,o,e,hb,hc⟩:=CW.o (by omega);refine ⟨b,o,e,hb,fun k hk=>?_⟩;rw[hc k (by omega),zwx (show k < ws.length by omega)];rfl
 obtain ⟨b,o,rfl,hbl,hcell⟩:=CELL.o;have HC:=zaa hcell
 have hwl:ws.length≤336:=by omega
 have hw63:63 < ws.length:=by omega
 clear hl hc eV c1 CELL hcell hN CW;go_enter Tryz.func97,Tryz.ntmps97;go_wp2_with fail;refine (zfe _ ws _ (HR.o.below hb0) hw).mono ?_;rw[JC.o.1,JC.o.2];rintro e w1 ⟨rfl,hb1⟩;have B1:=zaa (zab hb0 hb1 (by simp));have V1:=zaa ((hb1.block w.heap.size (by simp)).trans (zag rfl))
 have hz1:w.heap.size < w1.heap.size:=by have:=hb1.size;simp at this;omega
 have START:Hid (ReI w1 w1 (.slice none 0 0) (rdL ws [] 0)):=⟨World.ownsRow_nil _ _ _ _,Below.refl _ _⟩
 clear hb0 hb1;go_wp2
 go_loopw [6,7,8,18] (fun vL _ _ i wr=>∃ m:Nat,m≤N∧i=.int .i64 m∧Hid (ReI w1 wr vL (rdL ws [] m))) (fun _ _ _ i _=>N - (intOf i).toNat)
 case atStart=>exact ⟨0,by omega,rfl,START⟩
 case round =>
  obtain ⟨m,hm,rfl,J⟩:=hrel;clear START
  have m0:(0:Int)≤(m:Int):=by omega
  by_cases hlt:m < N
  ·have m1:(m:Int) < (N:Int):=by omega
   have BW:=zaa (zab B1.o J.o.b (by omega));have d0:=(BW.o.cell (p:=⟨b,o+(9+2*m),none⟩) hbl).trans (HC.o (9+2*m) (by omega));have d1:=(BW.o.cell (p:=⟨b,o+(9+2*m+1),none⟩) hbl).trans (HC.o (9+2*m+1) (by omega))
   have t0:(9+2*(m:Int)).toNat=9+2*m:=by omega
   have t1:(9+2*(m:Int)+1).toNat=9+2*m+1:=by omega
   rw[← t0] at d0;rw[← t1] at d1;have EM:=zaa (yact ws [] m);have l1:=zls ws [] m
   have l2:(rdL ws [] m).length≤16:=by omega
   have SK:Hid (∀ w',Below w1.heap.size w1 w'→w'.cell? ⟨w.heap.size,0,none⟩=some (.slice (some ⟨b,o,none⟩) ws.length cW)∧w'.cell? ⟨b,o+(9+2*(m:Int)).toNat,none⟩=some (.int .i64 (ldW ws [] (9+2*m)))∧w'.cell? ⟨b,o+(9+2*(m:Int)+1).toNat,none⟩=some (.int .i64 (ldW ws [] (9+2*m+1)))):=by
    intro w' hb';have BX:=zab B1.o hb' (by omega);refine ⟨(zad ((hb'.block w.heap.size hz1).trans V1.o)).1,?_,?_⟩
    ·rw[t0];exact (BX.cell (p:=⟨b,o+(9+2*m),none⟩) hbl).trans (HC.o (9+2*m) (by omega))
    ·rw[t1];exact (BX.cell (p:=⟨b,o+(9+2*m+1),none⟩) hbl).trans (HC.o (9+2*m+1) (by omega))
   generalize ldW ws [] (9+2*m)=x at *;generalize ldW ws [] (9+2*m+1)=y at *;obtain ⟨x1,x2,-,-⟩:=zad ((J.o.b.block w.heap.size hz1).trans V1.o)
   have i0:(0:Int)≤9+2*(m:Int):=by omega
   have i1:9+2*(m:Int) < (ws.length:Int):=by omega
   have i2:(0:Int)≤9+2*(m:Int)+1:=by omega
   have i3:9+2*(m:Int)+1 < (ws.length:Int):=by omega
   have wp1:IntKind.i64.wrap (9+2*(m:Int)+1)=9+2*(m:Int)+1:=by rw[IntKind.wrap_i64];omega
   have J4:=zaa (J.o.below ((Below.refl _ _).alloc (Nat.le_refl _) (.cells #[.int .i64 x,.int .i64 y] 156)));have J4d:=zaa ((J.o.below ((Below.refl wr.heap.size wr).drew)).below ((Below.refl _ _).alloc (Nat.le_refl _) (.cells #[.int .i64 x,.int .i64 y] 156)));have HRD:=zaa (yato wr x y);have HRDd:=zaa (yato wr.drew x y);clear l1 t0 t1;go_wp2_with (go_at_call 140;refine (zns _ _ (by omega)).mono ?_;rintro e w' ⟨rfl,hw'⟩;subst w')
   go_region_held3 (fun w'=>w'.cell? ⟨w.heap.size,0,none⟩=some (.slice (some ⟨b,o,none⟩) ws.length cW)∧w'.cell? ⟨b,o+(9+2*(m:Int)).toNat,none⟩=some (.int .i64 x)∧w'.cell? ⟨b,o+(9+2*(m:Int)+1).toNat,none⟩=some (.int .i64 y))
    (first | exact SK.o _ G.o.b | exact SK.o _ J.o.b | exact SK.o _ J.o.b.drew | exact SK.o _ J4.o.b | exact SK.o _ J4d.o.b)
    (first | (refine zbx rfl (.tmp 23) (.tmp 36) 122 rfl w1.heap.size 156 (.agg #[.int .i64 0,.int .i64 0]) 2 16 Tryz.underlying122 yaqw rfl (by decide) _ (rdL ws [] m).length (ses (rdL ws [] m)) rfl (by first | exact J4.o.l | exact J4d.o.l) _ 1 (ses [⟨x,y⟩]) rfl (by first | exact HRD.o | exact HRDd.o) (yaea _) (by simp[maxLen];omega) (by omega) (by first | exact J4.o.z | exact J4d.o.z) ?_;intro vN wN hownN hgrN;have G:=(by first | exact zaa (J4.o.grow [⟨x,y⟩] hownN hgrN) | exact zaa (J4d.o.grow [⟨x,y⟩] hownN hgrN):Hid (ReI w1 wN vN (rdL ws [] m ++ [⟨x,y⟩])));clear hownN hgrN))
   all_goals
    rw[← EM.o] at G;clear J J4 J4d HRD HRDd x1 x2 d0 d1 SK;go_wp2
    go_roundw
    case rel=>exact ⟨m+1,by omega,by go_num,G⟩
    case measure=>simp[intOf];omega
  ·obtain rfl:m=N:=by omega
   obtain ⟨aL,cL,hvL⟩:=RdE.shapeN (zai J.o.l).rd rfl;subst hvL;have hl2:=zls ws [] m
   have hl3:(rdL ws [] m).length≤16:=by omega
   have BW:=zaa (zab B1.o J.o.b (by omega));clear hl2
   rcases RP.o with ⟨q,f1,f2⟩ | ⟨q,f1,f2⟩
   ·have QQ:=zaa q;have FF:=zaa (And.intro f1 f2);clear q f1 f2 RP;go_wp2_with (go_at_call 141;refine (zij _ (rdL ws [] m) _ (zai J.o.l).rd (by omega)).mono ?_;rw[QQ.o];rintro e w2 ⟨rfl,hb2⟩);go_ret2;exact ⟨_,yaqu FF.o.1.symm,by rw[FF.o.2];exact Row.nil _ _ _ _ _,zab BW.o hb2 (by have:=BW.o.size;omega)⟩
   ·have QQ:=zaa q;have FF:=zaa (And.intro f1 f2);have U0:=zaa (fun k (hk:k < (rdL ws [] m).length)=>show 0≤(rdL ws [] m)[k].at_∧(rdL ws [] m)[k].at_ < 336 by have:=of_decide_eq_true (yael q k hk);omega);clear q f1 f2 RP;go_wp2_with fail;refine (zij _ (rdL ws [] m) _ (zai J.o.l).rd (by omega)).mono ?_;rw[QQ.o];rintro e w2 ⟨rfl,hb2⟩;have R2:=zaa (Rd.below (zai J.o.l).rd hb2);have hzr:=BW.o.size;have B2:=zaa (zab BW.o hb2 hzr);have hz2:=hb2.size;clear hb2;go_wp2_with fail;refine (zun _ (rdL ws [] m) _ R2.o hl3 U0.o).mono ?_;rintro e w3 ⟨v3,rfl,hr3,hb3⟩;obtain ⟨a3,c3,e3⟩:=RdM.form hr3.rd (n:=(appL (rdL ws [] m)).length) rfl;subst e3;have R3:=zaa (hr3.wide (lo':=w.heap.size) (hi':=w3.heap.size) (by omega) (Nat.le_refl _));have B3:=zaa (zab B2.o hb3 (by omega));clear hr3 hb3;go_wp2;go_ret2;exact ⟨_,yaqu FF.o.1.symm,by rw[FF.o.2];exact R3.o,B3.o⟩
end Go.Proofs.YtahiphgmhndgaaaGreatDoor
