/- Several texts laid together: PbD, PcA, PcB, PcC. -/
import Derived.Test.YtehnphoeplmpdaaGreatDoorZAN
import Derived.Test.YtehnphoeplmpdaaGreatDoorZAM
import Derived.Deep.LoopGhost
import Derived.Deep.RegionHeld3
set_option maxRecDepth 100000
set_option maxHeartbeats 4000000
namespace Go.Proofs.YtehnphoeplmpdaaGreatDoor
open Go.RowKit
def zph (s:ByteArray):Bool:=s.toList == [47]
def spN (s:ByteArray):Bool:=decide (2≤(pcs s).length∧(pcs s).length≤7) && (((pcs s).getD 0 ⟨#[]⟩).toList.isEmpty && ((pcs s).drop 1).all nmB)
def spB (s:ByteArray):Bool:=zph s || spN s
def spL (s:ByteArray):List ByteArray:=if zph s=true then [] else if spN s=true then (pcs s).drop 1 else []
theorem yabp {s:ByteArray} (h:zph s=true):spB s=true∧spL s=[]:=by
 unfold spB spL;rw[h];exact ⟨rfl,if_pos rfl⟩
theorem yaqq {s:ByteArray} (h:zph s=false) (h2:spN s=false):spB s=false∧spL s=[]:=by
 unfold spB spL;rw[h,h2];exact ⟨rfl,rfl⟩
theorem yany {s:ByteArray} (h:zph s=false) (h2:spN s=true):spB s=true∧spL s=(pcs s).drop 1:=by
 unfold spB spL;rw[h,h2];exact ⟨rfl,rfl⟩
theorem yail (w:World):RdT w (.slice none 0 0) []:=⟨rfl,none,0,rfl,⟨Nat.le_refl _,fun _=>rfl⟩,fun h=>absurd h (by simp)⟩
theorem zqb (w:World) (a:Addr):RdT w (.slice (some a) 0 0) []:=⟨rfl,some a,0,rfl,⟨Nat.le_refl _,fun e=>by cases e⟩,fun h=>absurd h (by simp)⟩
theorem zmc (s:ByteArray) (w:World) (hs:s.size≤65536) :
  Calls Tryz.prog 145 #[.string s] w fun e w'=>∃ v',e=.returned (.tuple #[v',.bool (spB s)])∧RdT w' v' (spL s)∧Below w.heap.size w w':=by
 have LC:=zaa (fun w1=>yacu s w1 hs);have BE:=zaa (fun w1:World=>(Below.refl w1.heap.size w1).alloc (Nat.le_refl _) (.cells #[] 9))
 cases c1:zph s with
 | true =>
  obtain ⟨E1,E2⟩:=yabp c1;rw[E1,E2];have c2:(s.toList == [47])=true:=c1;clear c1 E1 E2;go_enter Tryz.func145,Tryz.ntmps145;go_wp2;go_ret2;exact ⟨_,rfl,zqb _ _,BE.o _⟩
 | false =>
  have c2:(s.toList == [47])=false:=c1;have NO:=zaa (fun h=>yaqq c1 h);have YES:=zaa (fun h=>yany c1 h);have PL:=yajl s;have PP:=yaif s;have PS:=zaa (yabr s);have SN:=zaa (show spN s=(decide (2≤(pcs s).length∧(pcs s).length≤7) && (((pcs s).getD 0 ⟨#[]⟩).toList.isEmpty && ((pcs s).drop 1).all nmB)) from rfl);clear c1;generalize spB s=sb at *;generalize spL s=sl at *;generalize spN s=sn at *;generalize pcs s=P at *
  have hp0:0 < P.length:=by omega
  have SA:Hid ((∀ j (h:j < P.length),1≤j→nmB P[j]=true)→(P.drop 1).all nmB=true):=fun h=>by
   rw[List.all_eq_true];intro x hx;obtain ⟨j,hj,rfl⟩:=List.getElem_of_mem hx;rw[List.length_drop] at hj;rw[List.getElem_drop];exact h (1+j) (by omega) (by omega)
  have SF:Hid (∀ j (h:j < P.length),1≤j→nmB P[j]=false→(P.drop 1).all nmB=false):=fun j h h1 q=>by
   rw[List.all_eq_false];refine ⟨P[j],?_,by rw[q];simp⟩
   have e:P[j]=(P.drop 1)[j - 1]'(by rw[List.length_drop];omega):=by rw[List.getElem_drop];congr 1;omega
   rw[e];exact List.getElem_mem _
  have S0:Hid (P.getD 0 ⟨#[]⟩=P[0]):=by unfold Hid;rw[List.getD_eq_getElem?_getD,List.getElem?_eq_getElem hp0];rfl
  go_enter Tryz.func145,Tryz.ntmps145;go_wp2_with fail;refine (LC.o _).mono ?_;rintro e w1 ⟨v1,rfl,hr1,hb1⟩;have R1:Hid (RdT w1 v1 P):=hr1.rd;obtain ⟨aP,cP,rfl,hcap,hcP⟩:=R1.o.shape;obtain ⟨b,o,rfl,hbl,hcell⟩:=hcP hp0;have HC:=zaa hcell;have B1:=zaa hb1;have c0:=hcell 0 hp0;rw[Nat.add_zero] at c0;clear hr1 hb1 hcP hcell LC
  by_cases n1:P.length < 2
  ·have E:Hid (sn=false):=by unfold Hid;rw[SN.o,decide_eq_false (by omega)];rfl
   obtain ⟨e1,e2⟩:=NO.o E.o
   have n2:(P.length:Int) < 2:=by omega
   subst e1 e2;clear NO YES SN SA SF S0 n1;go_wp2;go_ret2;exact ⟨_,rfl,zqb _ _,zab B1.o (BE.o w1) B1.o.size⟩
  have n2:¬ (P.length:Int) < 2:=by omega
  by_cases n3:7 < P.length
  ·have E:Hid (sn=false):=by unfold Hid;rw[SN.o,decide_eq_false (by omega)];rfl
   obtain ⟨e1,e2⟩:=NO.o E.o
   have n4:(P.length:Int) > 7:=by omega
   subst e1 e2;clear NO YES SN SA SF S0 n1 n3;go_wp2;go_ret2;exact ⟨_,rfl,zqb _ _,zab B1.o (BE.o w1) B1.o.size⟩
  have n4:¬ (P.length:Int) > 7:=by omega
  have SN2:Hid (sn=(P[0].toList.isEmpty && (P.drop 1).all nmB)):=by unfold Hid;rw[SN.o,S0.o,decide_eq_true (by omega),Bool.true_and]
  have p1:(0:Int) < (P.length:Int):=by omega
  clear SN S0
  cases c3:P[0].toList.isEmpty with
  | false =>
   have E:Hid (sn=false):=by unfold Hid;rw[SN2.o,c3];rfl
   obtain ⟨e1,e2⟩:=NO.o E.o;subst e1 e2;clear NO YES SN2 SA SF n1 n3;generalize P[0]=p0 at *;go_wp2;go_ret2;exact ⟨_,rfl,zqb _ _,zab B1.o (BE.o w1) B1.o.size⟩
  | true =>
  have SN3:Hid (sn=(P.drop 1).all nmB):=by unfold Hid;rw[SN2.o,c3];rfl
  clear SN2;generalize P[0]=p0 at *;go_wp2;clear c0 c3
  go_loopg [5] (P.length - 1) (fun g i wr=>∃ k:Nat,k+g=P.length∧1≤k∧i=.int .i64 k∧wr=w1∧Hid (∀ j (h:j < P.length),1≤j→j < k→nmB P[j]=true))
  case atStart=>exact ⟨1,by omega,Nat.le_refl _,rfl,rfl,fun j h a b=>absurd b (by omega)⟩
  case round =>
   obtain ⟨k,hk,hk1,rfl,rfl,H⟩:=hrel
   have k0:(0:Int)≤(k:Int):=by omega
   by_cases hlt:k < P.length
   ·have k1:(k:Int) < (P.length:Int):=by omega
    have d0:=HC.o k hlt;have LN:=zaa (fun w2=>zds P[k] w2 (by have:=PS.o k hlt;unfold maxLen;omega))
    cases q:nmB P[k] with
    | false =>
     have E:Hid (sn=false):=by unfold Hid;rw[SN3.o];exact SF.o k hlt hk1 q
     obtain ⟨e1,e2⟩:=NO.o E.o;rw[q] at LN;subst e1 e2;clear NO YES SN3 SA SF n1 n3 H q;generalize P[k]=x at *;go_wp2_with fail;refine (LN.o _).mono ?_;rintro e w2 ⟨rfl,hw2⟩;subst w2;go_wp2;go_ret2;exact ⟨_,rfl,zqb _ _,zab B1.o (BE.o _) B1.o.size⟩
    | true =>
     have H2:Hid (∀ j (h:j < P.length),1≤j→j < k+1→nmB P[j]=true):=fun j h a c=>by
      by_cases e:j=k
      ·subst e;exact q
      ·exact H.o j h a (by omega)
     rw[q] at LN;clear H q;generalize P[k]=x at d0 LN;go_wp2_with fail;refine (LN.o _).mono ?_;rintro e w2 ⟨rfl,hw2⟩;subst w2;go_wp2
     go_roundg (P.length - (k+1))
     case measure=>omega
     case rel=>exact ⟨k+1,by omega,by omega,by go_num,rfl,H2.o⟩
   ·have E:Hid (sn=true):=by unfold Hid;rw[SN3.o];exact SA.o (fun j h a=>H.o j h a (by omega))
    obtain ⟨e1,e2⟩:=YES.o E.o;have RD:Hid (Rd wr 1 (.slice (some ⟨b,o+1,none⟩) (P.length - 1) (cP - 1)) (P.length - 1) (zcy (P.drop 1))):=zsn R1.o (by omega);have DL:=zaa (List.length_drop (l:=P) (i:=1))
    have cc:¬ cP=1:=by omega
    subst e1 e2;clear NO YES SN3 SA SF H;go_wp2;go_ret2;exact ⟨_,rfl,(by unfold RdT;rw[DL.o];exact RD.o),B1.o⟩
def spC (s:ByteArray):Int:=if 65536 < s.size then 2 else if spB s=true then 0 else 12
def spR (s:ByteArray):List ByteArray:=if 65536 < s.size then [] else spL s
theorem yafq {s:ByteArray} (h:65536 < s.size):spC s=2∧spR s=[]:=by
 unfold spC spR;exact ⟨if_pos h,if_pos h⟩
theorem zsj {s:ByteArray} (h:¬ 65536 < s.size):(spB s=true→spC s=0∧spR s=spL s)∧(spB s=false→spC s=12∧spR s=[]):=by
 unfold spC spR;rw[if_neg h,if_neg h];refine ⟨fun q=>⟨if_pos q,rfl⟩,fun q=>⟨by rw[q];rfl,?_⟩⟩;unfold spB at q;unfold spL;rw[Bool.or_eq_false_iff] at q;rw[q.1,q.2];rfl
theorem zse {s:ByteArray}:(spL s).length≤6:=by
 unfold spL
 split
 ·simp
 ·split
  ·rename_i h;unfold spN at h;simp only[Bool.and_eq_true,decide_eq_true_eq] at h;rw[List.length_drop];omega
  ·simp
def zbu (d:Int) (nm:ByteArray) (x:Den):Bool:=decide (0≤x.child) && (x.dir == d && x.name.toList == nm.toList)
def zbd (ps:List Den) (d:Int) (nm:ByteArray):Option Nat:=ps.findIdx? (zbu d nm)
def zky (ps:List Den) (d:Int) (nm:ByteArray):Int:=match zbd ps d nm with | none=>-1 | some k=>(k:Int)
def zaj (ps:List Den) (k:Nat):Int:=(ps.getD k ⟨0,⟨#[]⟩,0⟩).child
theorem zbc {ps:List Den} {k:Nat} (h:k < ps.length):zaj ps k=ps[k].child:=by
 unfold zaj;rw[List.getD_eq_getElem?_getD,List.getElem?_eq_getElem h];rfl
theorem yans {ps:List Den} {d:Int} {nm:ByteArray} (h:∀ j (h:j < ps.length),zbu d nm ps[j]=false):zbd ps d nm=none:=by
 unfold zbd;rw[List.findIdx?_eq_none_iff];intro x hx;obtain ⟨j,hj,rfl⟩:=List.getElem_of_mem hx;exact h j hj
theorem yafv {ps:List Den} {d:Int} {nm:ByteArray} {k:Nat} (hk:k < ps.length) (h:∀ j (h:j < ps.length),j < k→zbu d nm ps[j]=false) (e:zbu d nm ps[k]=true):zbd ps d nm=some k:=by
 unfold zbd;rw[List.findIdx?_eq_some_iff_getElem];exact ⟨hk,e,fun j hj=>by rw[h j (by omega) hj];simp⟩
theorem znh {ps:List Den} {d:Int} {nm:ByteArray} {k:Nat} (h:zbd ps d nm=some k):∃ hk:k < ps.length,zbu d nm ps[k]=true:=by
 unfold zbd at h;rw[List.findIdx?_eq_some_iff_getElem] at h;obtain ⟨hk,e,_⟩:=h;exact ⟨hk,e⟩
theorem zwg {d:Int} {nm:ByteArray} {x:Den} (h:zbu d nm x=true):0≤x.child:=by
 unfold zbu at h;simp only[Bool.and_eq_true,decide_eq_true_eq] at h;exact h.1
def wk (ws:List Ino) (ps:List Den):Int→List ByteArray→Int×Int
 | z,[]=>(z,0)
 | z,n :: ns=>if zai ws z=2 then (match zbd ps z n with | none=>(0,5) | some k=>wk ws ps (zaj ps k) ns) else (0,10)
theorem zij {ws:List Ino} {ps:List Den} {z:Int} {n:ByteArray} {ns:List ByteArray} (h:¬ zai ws z=2):wk ws ps z (n :: ns)=(0,10):=by
 show (if zai ws z=2 then _ else _)=_
 rw[if_neg h]
theorem zln {ws:List Ino} {ps:List Den} {z:Int} {n:ByteArray} {ns:List ByteArray} (h:zai ws z=2) (e:zbd ps z n=none):wk ws ps z (n :: ns)=(0,5):=by
 show (if zai ws z=2 then (match zbd ps z n with | none=>(0,5) | some k=>wk ws ps (zaj ps k) ns) else _)=_
 rw[if_pos h,e]
theorem zls {ws:List Ino} {ps:List Den} {z:Int} {n:ByteArray} {ns:List ByteArray} {k:Nat} (h:zai ws z=2) (e:zbd ps z n=some k):wk ws ps z (n :: ns)=wk ws ps (zaj ps k) ns:=by
 show (if zai ws z=2 then (match zbd ps z n with | none=>(0,5) | some k=>wk ws ps (zaj ps k) ns) else _)=_
 rw[if_pos h,e]
theorem zdd {ws:List Ino} {ps:List Den} (h:zay ws ps=true) {d:Int} {nm:ByteArray} {k:Nat} (e:zbd ps d nm=some k):k < ps.length∧0≤zaj ps k∧zaj ps k≤15:=by
 obtain ⟨hk,q⟩:=znh e;have:=zwg q;rw[zbc hk]
 rcases zfk h k hk with r | r
 ·omega
 ·exact ⟨hk,by omega,by omega⟩
theorem zkk {ws:List Ino} {ps:List Den} (h:zay ws ps=true):∀ (ns:List ByteArray) (z:Int),0≤z∧z≤15→0≤(wk ws ps z ns).1∧(wk ws ps z ns).1≤15
 | [],z,hz=>hz
 | n :: ns,z,hz=>by
  by_cases c:zai ws z=2
  ·cases e:zbd ps z n with
   | none=>rw[zln c e];exact ⟨by decide,by decide⟩
   | some k=>rw[zls c e];exact zkk h ns _ (zdd h e).2
  ·rw[zij c];exact ⟨by decide,by decide⟩
theorem zed (v:Value) (ws:List Ino) (ps:List Den) (d:Int) (nm:ByteArray) (w:World) (h:RdIm w v ws ps) (hn:ps.length≤1048576) :
  Calls Tryz.prog 224 #[v,.int .i64 d,.string nm] w fun e w'=>e=.returned (.int .i64 (zky ps d nm))∧Below w.heap.size w w':=by
 obtain ⟨vW,vP,rfl,h1,h2⟩:=h;obtain ⟨aW,cW,rfl,_⟩:=h1.shape;obtain ⟨aP,cP,rfl,_,hcP⟩:=h2.shape;have HZ:=zaa hcP;clear h1 h2 hcP
 obtain ⟨W,hW⟩:∃ W,W=w.alloc (.cells #[.slice aW ws.length cW,.slice aP ps.length cP] 79):=⟨_,rfl⟩
 have CA:Hid (∀ w',Below W.heap.size W w'→w'.cell? ⟨w.heap.size,1,none⟩=some (.slice aP ps.length cP)):=fun w' hb=>by
  have:w'.heap[w.heap.size]?=some (.cells #[.slice aW ws.length cW,.slice aP ps.length cP] 79 (0,0)):=(hb.block _ (by rw[hW];simp)).trans (by rw[hW];exact zah rfl);exact (zac this).2.1
 have BW:Hid (Below w.heap.size w W):=by rw[hW];exact (Below.refl _ _).alloc (Nat.le_refl _) _
 have hz:w.heap.size≤W.heap.size:=BW.o.size;go_enter Tryz.func224,Tryz.ntmps224;go_wp2;rw[← hW];clear hW
 go_loopg [7] ps.length (fun g i wr=>∃ k:Nat,k+g=ps.length∧i=.int .i64 k∧Hid (Below W.heap.size W wr∧∀ j (h:j < ps.length),j < k→zbu d nm ps[j]=false))
 case atStart=>exact ⟨0,by omega,rfl,Below.refl _ _,fun j h a=>absurd a (by omega)⟩
 case round =>
  obtain ⟨k,hk,rfl,J⟩:=hrel;have x1:=CA.o wr J.o.1;have B:=zaa (zab BW.o J.o.1 hz)
  have k0:(0:Int)≤(k:Int):=by omega
  by_cases hlt:k < ps.length
  ·obtain ⟨b,o,rfl,hbl,hcell⟩:=HZ.o (by omega);obtain ⟨c0,c1,c2⟩:=hcell k hlt;have d0:=(B.o.cell (p:=⟨b,o+k*3,none⟩) hbl).trans c0;have d1:=(B.o.cell (p:=⟨b,o+k*3+1,none⟩) hbl).trans c1;have d2:=(B.o.cell (p:=⟨b,o+k*3+2,none⟩) hbl).trans c2
   have k1:(k:Int) < (ps.length:Int):=by omega
   have HY:=zaa (fun e:zbu d nm ps[k]=true=>show zky ps d nm=(k:Int) by unfold zky;rw[yafv hlt J.o.2 e])
   have HX:=zaa (fun (e:zbu d nm ps[k]=false) j (h:j < ps.length) (a:j < k+1)=>show zbu d nm ps[j]=false by
    by_cases q:j=k
    ·subst q;exact e
    ·exact J.o.2 j h (by omega))
   have EH:=zaa (show zbu d nm ps[k]=(decide (0≤ps[k].child) && (ps[k].dir == d && ps[k].name.toList == nm.toList)) from rfl);have J1:=zaa J.o.1;clear hcell c0 c1 c2 J;generalize zbu d nm ps[k]=hit at *;generalize ps[k].child=y at *;generalize ps[k].dir=yd at *;generalize ps[k].name=yn at *;have BX:=zaa ((Below.refl wr.heap.size wr).alloc (Nat.le_refl _) (.cells #[.int .i64 yd,.string yn,.int .i64 y] 185));have B5:=zaa (zab J1.o BX.o J1.o.size);have B6:=zaa (zab B.o BX.o B.o.size)
   by_cases q:0≤y
   case neg =>
    have q1:¬ y≥0:=q;have E:=zaa (HX.o (by rw[EH.o,decide_eq_false q];rfl));clear q HX HY EH;go_wp2
    go_roundg (ps.length - (k+1))
    case measure=>omega
    case rel=>exact ⟨k+1,by omega,by go_num,B5.o,E.o⟩
   have q1:y≥0:=q
   by_cases r:yd=d
   case neg =>
    have r1:(yd == d)=false:=beq_eq_false_iff_ne.2 r;have E:=zaa (HX.o (by rw[EH.o,r1];simp));clear q r HX HY EH;go_wp2
    go_roundg (ps.length - (k+1))
    case measure=>omega
    case rel=>exact ⟨k+1,by omega,by go_num,B5.o,E.o⟩
   have r1:(yd == d)=true:=beq_iff_eq.2 r
   cases t:(yn.toList == nm.toList) with
   | false =>
    have E:=zaa (HX.o (by rw[EH.o,t];simp));clear q r HX HY EH;go_wp2
    go_roundg (ps.length - (k+1))
    case measure=>omega
    case rel=>exact ⟨k+1,by omega,by go_num,B5.o,E.o⟩
   | true =>
    have E:=zaa (HY.o (by rw[EH.o,t,r1,decide_eq_true q];rfl));clear q r HX HY EH;go_wp2;go_ret;exact ⟨zcd E.o.symm,B6.o⟩
  ·obtain rfl:k=ps.length:=by omega
   have E:=zaa (show zky ps d nm=-1 by unfold zky;rw[yans (fun j h=>J.o.2 j h h)]);clear J;go_wp2;go_ret;exact ⟨zcd E.o.symm,B.o⟩
theorem zow (v vL:Value) (ws:List Ino) (ps:List Den) (ns:List ByteArray) (w:World) (h:RdIm w v ws ps) (hL:RdT w vL ns) (hi:zay ws ps=true) (hn:ns.length≤1048576) :
  Calls Tryz.prog 146 #[v,vL] w fun e w'=>e=.returned (.tuple #[.int .i64 (wk ws ps 0 ns).1,.int .i64 (wk ws ps 0 ns).2])∧Below w.heap.size w w':=by
 have HR:=zaa h;have LE:=zaa (fun d nm w1 h=>zed v ws ps d nm w1 h (by have:=(zao hi).2.1;omega));obtain ⟨vW,vP,rfl,h1,h2⟩:=h;obtain ⟨aW,cW,rfl,_,hcW⟩:=h1.shape;obtain ⟨aP,cP,rfl,_,hcP⟩:=h2.shape;obtain ⟨aL,cL,rfl,_,hcL⟩:=hL.shape;have L16:=zaa (zao hi).1;have L24:=zaa (zao hi).2.1;obtain ⟨bW,oW,rfl,hblW,hcellW⟩:=hcW (by have:=L16.o;omega);obtain ⟨bP,oP,rfl,hblP,hcellP⟩:=hcP (by have:=L24.o;omega)
 have HW:Hid (∀ w',Below w.heap.size w w'→∀ n:Nat,n < 16→w'.cell? ⟨bW,oW+n*11,none⟩=some (.int .i64 (zai ws n))):=fun w' hb n hn=>by
  have hnl:n < ws.length:=by have:=L16.o;omega
  rw[zba hnl];exact (hb.cell (p:=⟨bW,oW+n*11,none⟩) hblW).trans (hcellW n hnl).1
 have HP:Hid (∀ w',Below w.heap.size w w'→∀ k (h:k < ps.length),w'.cell? ⟨bP,oP+k*3+2,none⟩=some (.int .i64 (zaj ps k))):=fun w' hb k hk=>by
  rw[zbc hk];exact (hb.cell (p:=⟨bP,oP+k*3+2,none⟩) hblP).trans (hcellP k hk).2.2
 have HN:=zaa hcL;have CR:=zaa (fun (d:Int) (nm:ByteArray) (k:Nat) (e:zbd ps d nm=some k)=>zdd hi e);generalize hres:wk ws ps 0 ns=res;have HRES:=zaa hres;clear hres;clear h1 h2 hcW hcP hcellW hcellP hcL hL hi
 obtain ⟨W,hW⟩:∃ W,W=w.alloc (.cells #[.slice (some ⟨bW,oW,none⟩) ws.length cW,.slice (some ⟨bP,oP,none⟩) ps.length cP] 79):=⟨_,rfl⟩
 have CA:Hid (∀ w',Below W.heap.size W w'→w'.cell? ⟨w.heap.size,0,none⟩=some (.slice (some ⟨bW,oW,none⟩) ws.length cW)∧w'.cell? ⟨w.heap.size,1,none⟩=some (.slice (some ⟨bP,oP,none⟩) ps.length cP)):=fun w' hb=>by
  have:w'.heap[w.heap.size]?=some (.cells #[.slice (some ⟨bW,oW,none⟩) ws.length cW,.slice (some ⟨bP,oP,none⟩) ps.length cP] 79 (0,0)):=(hb.block _ (by rw[hW];simp)).trans (by rw[hW];exact zah rfl);exact ⟨(zac this).1,(zac this).2.1⟩
 have BW:Hid (Below w.heap.size w W):=by rw[hW];exact (Below.refl _ _).alloc (Nat.le_refl _) _
 have hz:w.heap.size≤W.heap.size:=BW.o.size;go_enter Tryz.func146,Tryz.ntmps146;go_wp2;rw[← hW];clear hW
 go_loopg [6,7] ns.length (fun g a i wr=>∃ (k:Nat) (z:Nat),k+g=ns.length∧z < 16∧a=.int .i64 z∧i=.int .i64 k∧Hid (Below W.heap.size W wr∧res=wk ws ps z (ns.drop k)))
 case atStart=>exact ⟨0,0,by omega,by omega,rfl,rfl,Below.refl _ _,HRES.o.symm⟩
 case round =>
  obtain ⟨k,z,hk,hz16,rfl,rfl,J⟩:=hrel;obtain ⟨x0,x1⟩:=CA.o wr J.o.1;have B:=zaa (zab BW.o J.o.1 hz);have J1:=zaa J.o.1
  have k0:(0:Int)≤(k:Int):=by omega
  have z0:(0:Int)≤(z:Int):=by omega
  have z1:(z:Int) < (ws.length:Int):=by have:=L16.o;omega
  by_cases hlt:k < ns.length
  ·have k1:(k:Int) < (ns.length:Int):=by omega
   have y0:=HW.o wr B.o z hz16
   have JD:Hid (res=wk ws ps z (ns[k] :: ns.drop (k+1))):=by unfold Hid;rw[J.o.2,List.drop_eq_getElem_cons hlt]
   obtain ⟨bL,oL,rfl,hblL,hcell⟩:=HN.o (by omega);have n0:=(B.o.cell (p:=⟨bL,oL+k,none⟩) hblL).trans (hcell k hlt);have WN:=zaa (fun (h:¬ zai ws z=2)=>zij (ps:=ps) (n:=ns[k]) (ns:=ns.drop (k+1)) h);have WO:=zaa (fun (h:zai ws z=2) (e:zbd ps z ns[k]=none)=>zln (ns:=ns.drop (k+1)) h e);have WS:=zaa (fun (h:zai ws z=2) (j:Nat) (e:zbd ps z ns[k]=some j)=>zls (ns:=ns.drop (k+1)) h e);have EI:=zaa (show zky ps z ns[k]=match zbd ps z ns[k] with | none=>-1 | some k=>(k:Int) from rfl);have CR2:=zaa (fun (j:Nat) (e:zbd ps z ns[k]=some j)=>CR.o _ _ _ e);have LE2:=zaa (fun w1 (hb:Below wr.heap.size wr w1)=>LE.o (z:Int) ns[k] w1 (HR.o.below (zab B.o hb B.o.size)));clear J hcell;generalize zai ws z=kk at *;clear HRES;generalize ns[k]=nm at *
   by_cases q:kk=2
   case neg =>
    have q1:(kk != 2)=true:=by rw[bne_iff_ne];exact q
    obtain rfl:=JD.o.trans (WN.o q);clear q WN WO WS EI CR2 LE2;go_wp2;go_ret2;exact ⟨rfl,B.o⟩
   have q1:(kk != 2)=false:=by rw[q];rfl
   have SK:Hid (∀ w',Below wr.heap.size wr w'→(w'.cell? ⟨w.heap.size,0,none⟩=some (.slice (some ⟨bW,oW,none⟩) ws.length cW)∧w'.cell? ⟨w.heap.size,1,none⟩=some (.slice (some ⟨bP,oP,none⟩) ps.length cP))∧w'.cell? ⟨bL,oL+k,none⟩=some (.string nm)):=fun w' hb=>⟨CA.o w' (zab J1.o hb J1.o.size),(hb.cell (p:=⟨bL,oL+k,none⟩) (Nat.lt_of_lt_of_le hblL B.o.size)).trans n0⟩
   cases e:zbd ps z nm with
   | none =>
    have W2:=zaa (JD.o.trans (WO.o q e));rw[e] at EI;obtain rfl:=W2.o;have EI2:Hid (zky ps z nm=-1):=EI;rw[EI2.o] at LE2;clear q WN WO WS EI CR2 W2 JD e;go_wp2_with fail
    go_region_held3 (fun w'=>(w'.cell? ⟨w.heap.size,0,none⟩=some (.slice (some ⟨bW,oW,none⟩) ws.length cW)∧w'.cell? ⟨w.heap.size,1,none⟩=some (.slice (some ⟨bP,oP,none⟩) ps.length cP))∧w'.cell? ⟨bL,oL+k,none⟩=some (.string nm))
     (exact SK.o _ (by repeat (first | exact BF.o | exact Below.refl _ _ | refine Below.drew ?_)))
     (first
      | (go_at_call 224;refine (LE2.o _ (by repeat (first | exact Below.refl _ _ | refine Below.drew ?_))).mono ?_;rintro e w1 ⟨rfl,hb1⟩;have BF:Hid (Below wr.heap.size wr w1):=(by first | exact hb1 | exact zab (by repeat (first | exact Below.refl _ _ | refine Below.drew ?_)) hb1 (Nat.le_refl _));clear hb1))
    all_goals
     have B3:=zaa (zab B.o BF.o B.o.size);clear SK x0 x1 y0 n0;go_wp2;go_ret2;exact ⟨rfl,(by repeat (first | exact B3.o | refine Below.drew ?_))⟩
   | some j =>
    have W2:=zaa (JD.o.trans (WS.o q j e));obtain ⟨hj,c1,c2⟩:=CR2.o j e;rw[e] at EI;have EI2:Hid (zky ps z nm=(j:Int)):=EI;rw[EI2.o] at LE2
    obtain ⟨y,hy⟩:∃ y:Nat,zaj ps j=(y:Int):=⟨(zaj ps j).toNat,by omega⟩
    have HJ:=zaa (fun w' (hb:Below w.heap.size w w')=>HP.o w' hb j hj);rw[hy] at HJ W2
    have y16:y < 16:=by omega
    have j0:(0:Int)≤(j:Int):=by omega
    have j1:(j:Int) < (ps.length:Int):=by omega
    have j2:¬ (j:Int) < 0:=by omega
    clear q WN WO WS EI CR2 JD e hy c1 c2;go_wp2_with fail
    go_region_held3 (fun w'=>(w'.cell? ⟨w.heap.size,0,none⟩=some (.slice (some ⟨bW,oW,none⟩) ws.length cW)∧w'.cell? ⟨w.heap.size,1,none⟩=some (.slice (some ⟨bP,oP,none⟩) ps.length cP))∧w'.cell? ⟨bL,oL+k,none⟩=some (.string nm))
     (exact SK.o _ (by repeat (first | exact BF.o | exact Below.refl _ _ | refine Below.drew ?_)))
     (first
      | (go_at_call 224;refine (LE2.o _ (by repeat (first | exact Below.refl _ _ | refine Below.drew ?_))).mono ?_;rintro e w1 ⟨rfl,hb1⟩;have BF:Hid (Below wr.heap.size wr w1):=(by first | exact hb1 | exact zab (by repeat (first | exact Below.refl _ _ | refine Below.drew ?_)) hb1 (Nat.le_refl _));clear hb1))
    all_goals
     have B3:=zaa (zab B.o BF.o B.o.size);have B4:=zaa (zab J1.o BF.o J1.o.size);have p1:=(SK.o _ BF.o).1.2;have p2:=HJ.o _ B3.o;clear SK x0 x1 y0 n0;go_wp2
     go_roundg (ns.length - (k+1))
     case measure=>omega
     case rel=>exact ⟨k+1,y,by omega,y16,rfl,by go_num,(by repeat (first | exact B4.o | refine Below.drew ?_)),W2.o⟩
  ·obtain rfl:k=ns.length:=by omega
   have E:Hid (res=((z:Int),0)):=by unfold Hid;rw[J.o.2,List.drop_length];rfl
   clear HRES J;obtain rfl:=E.o;go_wp2;go_ret2;exact ⟨rfl,B.o⟩
def lkI (ws:List Ino) (ps:List Den) (s:ByteArray):Int×Int:=if spB s=true then wk ws ps 0 (spL s) else (0,12)
def lkR (ws:List Ino) (ps:List Den) (s:ByteArray):Int×Int:=if 65536 < s.size then (0,2) else if zay ws ps=true then lkI ws ps s else (0,1)
def paN (ws:List Ino) (ps:List Den) (xs:List ByteArray) (x:ByteArray):Int×ByteArray×Int:=if (wk ws ps 0 xs).2=0 then (if zai ws (wk ws ps 0 xs).1=2 then ((wk ws ps 0 xs).1,x,0) else (0,⟨#[]⟩,10)) else (0,⟨#[]⟩,(wk ws ps 0 xs).2)
def paL (ws:List Ino) (ps:List Den) (ns:List ByteArray):Int×ByteArray×Int:=if ns=[] then (0,⟨#[]⟩,19) else paN ws ps ns.dropLast (ns.getLastD ⟨#[]⟩)
def paI (ws:List Ino) (ps:List Den) (s:ByteArray):Int×ByteArray×Int:=if spB s=true then paL ws ps (spL s) else (0,⟨#[]⟩,12)
def paR (ws:List Ino) (ps:List Den) (s:ByteArray):Int×ByteArray×Int:=if 65536 < s.size then (0,⟨#[]⟩,2) else if zay ws ps=true then paI ws ps s else (0,⟨#[]⟩,1)
theorem ztg (ws:List Ino) (ps:List Den) (xs:List ByteArray) (x:ByteArray):paL ws ps (xs ++ [x])=paN ws ps xs x:=by
 unfold paL;rw[if_neg (by simp),List.dropLast_concat]
 congr 1
 simp
theorem zxw {ns:List ByteArray} (h:¬ ns=[]):∃ xs x,ns=xs ++ [x]:=⟨ns.dropLast,ns.getLast h,(List.dropLast_concat_getLast h).symm⟩
theorem zgx (v:Value) (ws:List Ino) (ps:List Den) (s:ByteArray) (w:World) (h:RdIm w v ws ps) (hi:zay ws ps=true) (hs:s.size≤65536) :
  Calls Tryz.prog 81 #[v,.string s] w fun e w'=>e=.returned (.tuple #[.int .i64 (lkI ws ps s).1,.int .i64 (lkI ws ps s).2])∧Below w.heap.size w w':=by
 have HR:=zaa h;have LS:=zaa (fun w1=>zmc s w1 hs);have LW:=zaa (fun vL w1 h hL=>zow v vL ws ps (spL s) w1 h hL hi (by have:=@zse s;omega));have EL:=zaa (show lkI ws ps s=if spB s=true then wk ws ps 0 (spL s) else (0,12) from rfl);obtain ⟨vW,vP,rfl,h1,h2⟩:=h;obtain ⟨aW,cW,rfl,_,_⟩:=h1.shape;obtain ⟨aP,cP,rfl,_,_⟩:=h2.shape;clear h1 h2 hi
 have CA:Hid (∀ w',Below (w.alloc (.cells #[.slice aW ws.length cW,.slice aP ps.length cP] 79)).heap.size (w.alloc (.cells #[.slice aW ws.length cW,.slice aP ps.length cP] 79)) w'→w'.cell? ⟨w.heap.size,0,none⟩=some (.slice aW ws.length cW)∧w'.cell? ⟨w.heap.size,1,none⟩=some (.slice aP ps.length cP)):=fun w' hb=>by
  have:w'.heap[w.heap.size]?=some (.cells #[.slice aW ws.length cW,.slice aP ps.length cP] 79 (0,0)):=(hb.block _ (by simp)).trans (zah rfl);exact ⟨(zac this).1,(zac this).2.1⟩
 have BW:Hid (Below w.heap.size w (w.alloc (.cells #[.slice aW ws.length cW,.slice aP ps.length cP] 79))):=(Below.refl _ _).alloc (Nat.le_refl _) _;generalize lkI ws ps s=res at *;generalize wk ws ps 0 (spL s)=rw0 at *
 cases c:spB s with
 | false =>
  rw[c] at LS EL;obtain rfl:=EL.o;clear EL LW;go_enter Tryz.func81,Tryz.ntmps81;go_wp2_with fail;refine (LS.o _).mono ?_;rintro e w1 ⟨v1,rfl,hr1,hb1⟩;have B1:=zaa (zab BW.o hb1 BW.o.size);clear hr1 hb1;go_wp2;go_ret2;exact ⟨rfl,B1.o⟩
 | true =>
  rw[c] at LS EL;obtain rfl:res=rw0:=EL.o;clear EL;go_enter Tryz.func81,Tryz.ntmps81;go_wp2_with fail;refine (LS.o _).mono ?_;rintro e w1 ⟨v1,rfl,hr1,hb1⟩;have B1:=zaa (zab BW.o hb1 BW.o.size);obtain ⟨x0,x1⟩:=CA.o _ hb1;have R1:=zaa hr1;clear hr1 hb1;go_wp2_with fail;refine (LW.o _ _ (HR.o.below B1.o) R1.o).mono ?_;rintro e w2 ⟨rfl,hb2⟩;have B2:=zaa (zab B1.o hb2 B1.o.size);clear hb2 x0 x1;go_wp2;go_ret2;exact ⟨rfl,B2.o⟩
end Go.Proofs.YtehnphoeplmpdaaGreatDoor
