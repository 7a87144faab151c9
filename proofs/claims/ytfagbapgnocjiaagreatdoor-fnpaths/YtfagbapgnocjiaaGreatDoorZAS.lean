import Derived.Test.YtfagbapgnocjiaaGreatDoorZAQ
set_option maxRecDepth 100000
set_option maxHeartbeats 16000000
namespace Go.Proofs.YtfagbapgnocjiaaGreatDoor
open Go.RowKit
def zhv(s:ByteArray):Bool:=s.toList == [47]
def spN(s:ByteArray):Bool:=decide (2<=(pcs s).length/\(pcs s).length<=7)&&(((pcs s).getD 0 ⟨#[]⟩).toList.isEmpty&&((pcs s).drop 1).all nmB)
def spB(s:ByteArray):Bool:=zhv s||spN s
def spL(s:ByteArray):List ByteArray:=if zhv s=true then[]else if spN s=true then(pcs s).drop 1 else[]
theorem zqj{s:ByteArray}(h:zhv s=true):spB s=true/\spL s=[]:=by
 unfold spB spL;rw[h];exact⟨rfl,if_pos rfl⟩
theorem yarl{s:ByteArray}(h:zhv s=false)(h2:spN s=false):spB s=false/\spL s=[]:=by
 unfold spB spL;rw[h,h2];exact⟨rfl,rfl⟩
theorem yaho{s:ByteArray}(h:zhv s=false)(h2:spN s=true):spB s=true/\spL s=(pcs s).drop 1:=by
 unfold spB spL;rw[h,h2];exact⟨rfl,rfl⟩
theorem yajq(w:World):RdT w (.N) []:=⟨rfl,none,0,rfl,⟨Nat.le_refl _,fun _=>rfl⟩,fun h=>absurd h (by simp)⟩
theorem zog(w:World)(a:Addr):RdT w (.slice (some a) 0 0) []:=⟨rfl,some a,0,rfl,⟨Nat.le_refl _,fun e=>by cases e⟩,fun h=>absurd h (by simp)⟩
theorem zko(s:ByteArray)(w:World)(hs:s.size<=65536) :
  zC 166 #[.string s] w fun e w'=>∃ v',e=.returned (.tuple #[v',.bool (spB s)])/\RdT w' v' (spL s)/\zB w w':=by
 have LC:=zaa (fun w1=>yacy s w1 hs);have BE:=zaa (fun w1:World=>(Below.refl w1.heap.size w1).alloc zL (.cells #[] 9))
 cases c1:zhv s with
 | true =>
  obtain⟨E1,E2⟩:=zqj c1;rw[E1,E2];have c2:(s.toList == [47])=true:=c1;clear c1 E1 E2;go_enter Tryz.func166,Tryz.ntmps166;go_wp2;go_ret2;exact⟨_,rfl,zog _ _,BE.o _⟩
 | false =>
  have c2:(s.toList == [47])=false:=c1;have NO:=zaa (fun h=>yarl c1 h);have YES:=zaa (fun h=>yaho c1 h);have PL:=yaij s;have PP:=yajk s;have PS:=zaa (zzv s);have SN:=zaa (show spN s=(decide (2<=(pcs s).length/\(pcs s).length<=7)&&(((pcs s).getD 0 ⟨#[]⟩).toList.isEmpty&&((pcs s).drop 1).all nmB))from rfl);clear c1;generalize spB s=sb at *;generalize spL s=sl at *;generalize spN s=sn at *;generalize pcs s=P at *
  have hp0:0<P.length:=by omega
  have SA:Hid ((∀ j (h:j<P.length),1<=j->nmB P[j]=true)->(P.drop 1).all nmB=true):=fun h=>by
   rw[List.all_eq_true];intro x hx;obtain⟨j,hj,rfl⟩:=List.getElem_of_mem hx;rw[List.length_drop]at hj;rw[List.getElem_drop];exact h (1+j) (by omega) (by omega)
  have SF:Hid (∀ j (h:j<P.length),1<=j->nmB P[j]=false->(P.drop 1).all nmB=false):=fun j h h1 q=>by
   rw[List.all_eq_false];refine⟨P[j],?_,by rw[q];simp⟩
   have e:P[j]=(P.drop 1)[j-1]'(by rw[List.length_drop];omega):=by rw[List.getElem_drop];congr 1;omega
   rw[e];exact List.getElem_mem _
  have S0:Hid (P.getD 0 ⟨#[]⟩=P[0]):=by unfold Hid;rw[List.getD_eq_getElem?_getD,List.getElem?_eq_getElem hp0];rfl
  go_enter Tryz.func166,Tryz.ntmps166;go_wp2_with fail;refine(LC.o _).mono ?_;rintro e w1 ⟨v1,rfl,hr1,hb1⟩;have R1:Hid (RdT w1 v1 P):=hr1.rd;obtain⟨aP,cP,rfl,hcap,hcP⟩:=R1.o.shape;obtain⟨b,o,rfl,hbl,hcell⟩:=hcP hp0;have HC:=zaa hcell;have B1:=zaa hb1;have c0:=hcell 0 hp0;rw[Nat.add_zero]at c0;clear hr1 hb1 hcP hcell LC
  by_cases n1:P.length<2
  ·have E:Hid (sn=false):=by unfold Hid;rw[SN.o,decide_eq_false (by omega)];rfl
   obtain⟨e1,e2⟩:=NO.o E.o
   have n2:(P.length:Int)<2:=by omega
   subst e1 e2;clear NO YES SN SA SF S0 n1;go_wp2;go_ret2;exact⟨_,rfl,zog _ _,zab B1.o (BE.o w1) B1.o.size⟩
  have n2:¬ (P.length:Int)<2:=by omega
  by_cases n3:7<P.length
  ·have E:Hid (sn=false):=by unfold Hid;rw[SN.o,decide_eq_false (by omega)];rfl
   obtain⟨e1,e2⟩:=NO.o E.o
   have n4:(P.length:Int)>7:=by omega
   subst e1 e2;clear NO YES SN SA SF S0 n1 n3;go_wp2;go_ret2;exact⟨_,rfl,zog _ _,zab B1.o (BE.o w1) B1.o.size⟩
  have n4:¬ (P.length:Int)>7:=by omega
  have SN2:Hid (sn=(P[0].toList.isEmpty&&(P.drop 1).all nmB)):=by unfold Hid;rw[SN.o,S0.o,decide_eq_true (by omega),Bool.true_and]
  have p1:(0:Int)<(P.length:Int):=by omega
  clear SN S0
  cases c3:P[0].toList.isEmpty with
  | false =>
   have E:Hid (sn=false):=by unfold Hid;rw[SN2.o,c3];rfl
   obtain⟨e1,e2⟩:=NO.o E.o;subst e1 e2;clear NO YES SN2 SA SF n1 n3;generalize P[0]=p0 at *;go_wp2;go_ret2;exact⟨_,rfl,zog _ _,zab B1.o (BE.o w1) B1.o.size⟩
  | true =>
  have SN3:Hid (sn=(P.drop 1).all nmB):=by unfold Hid;rw[SN2.o,c3];rfl
  clear SN2;generalize P[0]=p0 at *;go_wp2;clear c0 c3
  go_loopg [5] (P.length-1) (fun g i wr=>∃ k:Nat,k+g=P.length/\1<=k/\i=.I k/\wr=w1/\Hid (∀ j (h:j<P.length),1<=j->j<k->nmB P[j]=true))
  case atStart=>exact⟨1,by omega,Nat.le_refl _,rfl,rfl,fun j h a b=>absurd b (by omega)⟩
  case round =>
   obtain⟨k,hk,hk1,rfl,rfl,H⟩:=hrel
   have k0:(0:Int)<=(k:Int):=by omega
   by_cases hlt:k<P.length
   ·have k1:(k:Int)<(P.length:Int):=by omega
    have d0:=HC.o k hlt;have LN:=zaa (fun w2=>zed P[k] w2 (by have:=PS.o k hlt;unfold maxLen;omega))
    cases q:nmB P[k] with
    | false =>
     have E:Hid (sn=false):=by unfold Hid;rw[SN3.o];exact SF.o k hlt hk1 q
     obtain⟨e1,e2⟩:=NO.o E.o;rw[q]at LN;subst e1 e2;clear NO YES SN3 SA SF n1 n3 H q;generalize P[k]=x at *;go_wp2_with fail;refine(LN.o _).mono ?_;rintro e w2 ⟨rfl,hw2⟩;subst w2;go_wp2;go_ret2;exact⟨_,rfl,zog _ _,zab B1.o (BE.o _) B1.o.size⟩
    | true =>
     have H2:Hid (∀ j (h:j<P.length),1<=j->j<k+1->nmB P[j]=true):=fun j h a c=>by
      by_cases e:j=k
      ·subst e;exact q
      ·exact H.o j h a (by omega)
     rw[q]at LN;clear H q;generalize P[k]=x at d0 LN;go_wp2_with fail;refine(LN.o _).mono ?_;rintro e w2 ⟨rfl,hw2⟩;subst w2;go_wp2
     go_roundg (P.length-(k+1))
     case measure=>omega
     case rel=>exact⟨k+1,by omega,by omega,by go_num,rfl,H2.o⟩
   ·have E:Hid (sn=true):=by unfold Hid;rw[SN3.o];exact SA.o (fun j h a=>H.o j h a (by omega))
    obtain⟨e1,e2⟩:=YES.o E.o;have RD:Hid (Rd wr 1 (.slice (some ⟨b,o+1,none⟩) (P.length-1) (cP-1)) (P.length-1) (zcs (P.drop 1))):=zsk R1.o (by omega);have DL:=zaa (List.length_drop (l:=P) (i:=1))
    have cc:¬ cP=1:=by omega
    subst e1 e2;clear NO YES SN3 SA SF H;go_wp2;go_ret2;exact⟨_,rfl,(by unfold RdT;rw[DL.o];exact RD.o),B1.o⟩
def spC(s:ByteArray):Int:=if 65536<s.size then 2 else if spB s=true then 0 else 12
def spR(s:ByteArray):List ByteArray:=if 65536<s.size then[]else spL s
theorem yaid{s:ByteArray}(h:65536<s.size):spC s=2/\spR s=[]:=by
 unfold spC spR;exact⟨if_pos h,if_pos h⟩
theorem zsl{s:ByteArray}(h:¬ 65536<s.size):(spB s=true->spC s=0/\spR s=spL s)/\(spB s=false->spC s=12/\spR s=[]):=by
 unfold spC spR;rw[if_neg h,if_neg h];refine⟨fun q=>⟨if_pos q,rfl⟩,fun q=>⟨by rw[q];rfl,?_⟩⟩;unfold spB at q;unfold spL;rw[Bool.or_eq_false_iff]at q;rw[q.1,q.2];rfl
theorem zoj{s:ByteArray}:(spL s).length<=6:=by
 unfold spL
 split
 ·simp
 ·split
  ·rename_i h;unfold spN at h;simp only[Bool.and_eq_true,decide_eq_true_eq]at h;rw[List.length_drop];omega
  ·simp
theorem yaob(s:ByteArray):(spR s).length<=6:=by
 unfold spR
 split
 ·simp
 ·exact zoj
def zbf(d:Int)(nm:ByteArray)(x:Den):Bool:=decide (0<=x.child)&&(x.dir == d&&x.name.toList == nm.toList)
def zbj(ps:List Den)(d:Int)(nm:ByteArray):Option Nat:=ps.findIdx? (zbf d nm)
def zjr(ps:List Den)(d:Int)(nm:ByteArray):Int:=match zbj ps d nm with | none=>-1 | some k=>(k:Int)
def zap(ps:List Den)(k:Nat):Int:=(ps.getD k ⟨0,⟨#[]⟩,0⟩).child
theorem zch{ps:List Den}{k:Nat}(h:k<ps.length):zap ps k=ps[k].child:=by
 unfold zap;rw[List.getD_eq_getElem?_getD,List.getElem?_eq_getElem h];rfl
theorem yanl{ps:List Den}{d:Int}{nm:ByteArray}(h:∀ j (h:j<ps.length),zbf d nm ps[j]=false):zbj ps d nm=none:=by
 unfold zbj;rw[List.findIdx?_eq_none_iff];intro x hx;obtain⟨j,hj,rfl⟩:=List.getElem_of_mem hx;exact h j hj
theorem zsn{ps:List Den}{d:Int}{nm:ByteArray}{k:Nat}(hk:k<ps.length)(h:∀ j (h:j<ps.length),j<k->zbf d nm ps[j]=false)(e:zbf d nm ps[k]=true):zbj ps d nm=some k:=by
 unfold zbj;rw[List.findIdx?_eq_some_iff_getElem];exact⟨hk,e,fun j hj=>by rw[h j (by omega) hj];simp⟩
theorem yaag{ps:List Den}{d:Int}{nm:ByteArray}{k:Nat}(h:zbj ps d nm=some k):∃ hk:k<ps.length,zbf d nm ps[k]=true:=by
 unfold zbj at h;rw[List.findIdx?_eq_some_iff_getElem]at h;obtain⟨hk,e,_⟩:=h;exact⟨hk,e⟩
theorem yaim{d:Int}{nm:ByteArray}{x:Den}(h:zbf d nm x=true):0<=x.child:=by
 unfold zbf at h;simp only[Bool.and_eq_true,decide_eq_true_eq]at h;exact h.1
def wk(ws:List Ino)(ps:List Den):Int->List ByteArray->Int×Int
 | z,[]=>(z,0)
 | z,n::ns=>if zag ws z=2 then(match zbj ps z n with | none=>(0,5) | some k=>wk ws ps (zap ps k) ns) else(0,10)
theorem yans(ws:List Ino)(ps:List Den)(z:Int):wk ws ps z []=(z,0):=rfl
theorem zhk{ws:List Ino}{ps:List Den}{z:Int}{n:ByteArray}{ns:List ByteArray}(h:¬ zag ws z=2):wk ws ps z (n::ns)=(0,10):=by
 show(if zag ws z=2 then _ else _)=_
 rw[if_neg h]
theorem zjz{ws:List Ino}{ps:List Den}{z:Int}{n:ByteArray}{ns:List ByteArray}(h:zag ws z=2)(e:zbj ps z n=none):wk ws ps z (n::ns)=(0,5):=by
 show(if zag ws z=2 then(match zbj ps z n with | none=>(0,5) | some k=>wk ws ps (zap ps k) ns)else _)=_
 rw[if_pos h,e]
theorem zgc{ws:List Ino}{ps:List Den}{z:Int}{n:ByteArray}{ns:List ByteArray}{k:Nat}(h:zag ws z=2)(e:zbj ps z n=some k):wk ws ps z (n::ns)=wk ws ps (zap ps k) ns:=by
 show(if zag ws z=2 then(match zbj ps z n with | none=>(0,5) | some k=>wk ws ps (zap ps k) ns)else _)=_
 rw[if_pos h,e]
theorem zez{ws:List Ino}{ps:List Den}(h:zbo ws ps=true){d:Int}{nm:ByteArray}{k:Nat}(e:zbj ps d nm=some k):k<ps.length/\0<=zap ps k/\zap ps k<=15:=by
 obtain⟨hk,q⟩:=yaag e;have:=yaim q;rw[zch hk]
 rcases zdg h k hk with r | r
 ·omega
 ·exact⟨hk,by omega,by omega⟩
theorem zjm{ws:List Ino}{ps:List Den}(h:zbo ws ps=true):∀ (ns:List ByteArray) (z:Int),0<=z/\z<=15->0<=(wk ws ps z ns).1/\(wk ws ps z ns).1<=15
 | [],z,hz=>hz
 | n::ns,z,hz=>by
  by_cases c:zag ws z=2
  ·cases e:zbj ps z n with
   | none=>rw[zjz c e];exact⟨by decide,by decide⟩
   | some k=>rw[zgc c e];exact zjm h ns _ (zez h e).2
  ·rw[zhk c];exact⟨by decide,by decide⟩
theorem zdf(v:Value)(ws:List Ino)(ps:List Den)(d:Int)(nm:ByteArray)(w:World)(h:RdIm w v ws ps)(hn:ps.length<=1048576) :
  zC 50 #[v,.I d,.string nm] w fun e w'=>e=.returned (.I (zjr ps d nm))/\zB w w':=by
 obtain⟨vW,vP,rfl,h1,h2⟩:=h;obtain⟨aW,cW,rfl,_⟩:=h1.shape;obtain⟨aP,cP,rfl,_,hcP⟩:=h2.shape;have HZ:=zaa hcP;clear h1 h2 hcP
 obtain⟨W,hW⟩:=zE (w.alloc (.cells #[.slice aW ws.length cW,.slice aP ps.length cP] 26))
 have CA:Hid (∀ w',zB W w'->w'.cell? ⟨w.heap.size,1,none⟩=some (.slice aP ps.length cP)):=fun w' hb=>by
  have:w'.heap[w.heap.size]?=some (.cells #[.slice aW ws.length cW,.slice aP ps.length cP] 26 (0,0)):=(hb.block _ (by rw[hW];simp)).trans (by rw[hW];exact zai rfl);exact(zad this).2.1
 have BW:Hid (zB w W):=by rw[hW];exact zR.alloc zL _
 have hz:w.heap.size<=W.heap.size:=BW.o.size;go_enter Tryz.func50,Tryz.ntmps50;go_wp2;rw[<- hW];clear hW
 go_loopg [7] ps.length (fun g i wr=>∃ k:Nat,k+g=ps.length/\i=.I k/\Hid (zB W wr/\∀ j (h:j<ps.length),j<k->zbf d nm ps[j]=false))
 case atStart=>exact⟨0,by omega,rfl,zR,fun j h a=>absurd a (by omega)⟩
 case round =>
  obtain⟨k,hk,rfl,J⟩:=hrel;have x1:=CA.o wr J.o.1;have B:=zaa (zab BW.o J.o.1 hz)
  have k0:(0:Int)<=(k:Int):=by omega
  by_cases hlt:k<ps.length
  ·obtain⟨b,o,rfl,hbl,hcell⟩:=HZ.o (by omega);obtain⟨c0,c1,c2⟩:=hcell k hlt;have d0:=(B.o.cell (p:=⟨b,o+k*3,none⟩) hbl).trans c0;have d1:=(B.o.cell (p:=⟨b,o+k*3+1,none⟩) hbl).trans c1;have d2:=(B.o.cell (p:=⟨b,o+k*3+2,none⟩) hbl).trans c2
   have k1:(k:Int)<(ps.length:Int):=by omega
   have HY:=zaa (fun e:zbf d nm ps[k]=true=>show zjr ps d nm=(k:Int) by unfold zjr;rw[zsn hlt J.o.2 e])
   have HX:=zaa (fun(e:zbf d nm ps[k]=false) j (h:j<ps.length) (a:j<k+1)=>show zbf d nm ps[j]=false by
    by_cases q:j=k
    ·subst q;exact e
    ·exact J.o.2 j h (by omega))
   have EH:=zaa (show zbf d nm ps[k]=(decide (0<=ps[k].child)&&(ps[k].dir == d&&ps[k].name.toList == nm.toList))from rfl);have J1:=zaa J.o.1;clear hcell c0 c1 c2 J;generalize zbf d nm ps[k]=hit at *;generalize ps[k].child=y at *;generalize ps[k].dir=yd at *;generalize ps[k].name=yn at *;have BX:=zaa ((Below.refl wr.heap.size wr).alloc zL (.cells #[.I yd,.string yn,.I y] 52));have B5:=zaa (zab J1.o BX.o J1.o.size);have B6:=zaa (zab B.o BX.o B.o.size)
   by_cases q:0<=y
   case neg =>
    have q1:¬ y>=0:=q;have E:=zaa (HX.o (by rw[EH.o,decide_eq_false q];rfl));clear q HX HY EH;go_wp2
    go_roundg (ps.length-(k+1))
    case measure=>omega
    case rel=>exact⟨k+1,by omega,by go_num,B5.o,E.o⟩
   have q1:y>=0:=q
   by_cases r:yd=d
   case neg =>
    have r1:(yd == d)=false:=beq_eq_false_iff_ne.2 r;have E:=zaa (HX.o (by rw[EH.o,r1];simp));clear q r HX HY EH;go_wp2
    go_roundg (ps.length-(k+1))
    case measure=>omega
    case rel=>exact⟨k+1,by omega,by go_num,B5.o,E.o⟩
   have r1:(yd == d)=true:=beq_iff_eq.2 r
   cases t:(yn.toList == nm.toList) with
   | false =>
    have E:=zaa (HX.o (by rw[EH.o,t];simp));clear q r HX HY EH;go_wp2
    go_roundg (ps.length-(k+1))
    case measure=>omega
    case rel=>exact⟨k+1,by omega,by go_num,B5.o,E.o⟩
   | true =>
    have E:=zaa (HY.o (by rw[EH.o,t,r1,decide_eq_true q];rfl));clear q r HX HY EH;go_wp2;go_ret;exact⟨zcx E.o.symm,B6.o⟩
  ·obtain rfl:k=ps.length:=by omega
   have E:=zaa (show zjr ps d nm=-1 by unfold zjr;rw[yanl (fun j h=>J.o.2 j h h)]);clear J;go_wp2;go_ret;exact⟨zcx E.o.symm,B.o⟩
theorem znb(v vL:Value)(ws:List Ino)(ps:List Den)(ns:List ByteArray)(w:World)(h:RdIm w v ws ps)(hL:RdT w vL ns)(hi:zbo ws ps=true)(hn:ns.length<=1048576) :
  zC 167 #[v,vL] w fun e w'=>e=.returned (.tuple #[.I (wk ws ps 0 ns).1,.I (wk ws ps 0 ns).2])/\zB w w':=by
 have HR:=zaa h;have LE:=zaa (fun d nm w1 h=>zdf v ws ps d nm w1 h (by have:=(zao hi).2.1;omega));obtain⟨vW,vP,rfl,h1,h2⟩:=h;obtain⟨aW,cW,rfl,_,hcW⟩:=h1.shape;obtain⟨aP,cP,rfl,_,hcP⟩:=h2.shape;obtain⟨aL,cL,rfl,_,hcL⟩:=hL.shape;have L16:=zaa (zao hi).1;have L24:=zaa (zao hi).2.1;obtain⟨bW,oW,rfl,hblW,hcellW⟩:=hcW (by have:=L16.o;omega);obtain⟨bP,oP,rfl,hblP,hcellP⟩:=hcP (by have:=L24.o;omega)
 have HW:Hid (∀ w',zB w w'->∀ n:Nat,n<16->w'.cell? ⟨bW,oW+n*11,none⟩=some (.I (zag ws n))):=fun w' hb n hn=>by
  have hnl:n<ws.length:=by have:=L16.o;omega
  rw[zbc hnl];exact(hb.cell (p:=⟨bW,oW+n*11,none⟩) hblW).trans (hcellW n hnl).1
 have HP:Hid (∀ w',zB w w'->∀ k (h:k<ps.length),w'.cell? ⟨bP,oP+k*3+2,none⟩=some (.I (zap ps k))):=fun w' hb k hk=>by
  rw[zch hk];exact(hb.cell (p:=⟨bP,oP+k*3+2,none⟩) hblP).trans (hcellP k hk).2.2
 have HN:=zaa hcL;have CR:=zaa (fun(d:Int) (nm:ByteArray) (k:Nat) (e:zbj ps d nm=some k)=>zez hi e);generalize hres:wk ws ps 0 ns=res;have HRES:=zaa hres;clear hres;clear h1 h2 hcW hcP hcellW hcellP hcL hL hi
 obtain⟨W,hW⟩:=zE (w.alloc (.cells #[.slice (some ⟨bW,oW,none⟩) ws.length cW,.slice (some ⟨bP,oP,none⟩) ps.length cP] 26))
 have CA:Hid (∀ w',zB W w'->w'.cell? ⟨w.heap.size,0,none⟩=some (.slice (some ⟨bW,oW,none⟩) ws.length cW)/\w'.cell? ⟨w.heap.size,1,none⟩=some (.slice (some ⟨bP,oP,none⟩) ps.length cP)):=fun w' hb=>by
  have:w'.heap[w.heap.size]?=some (.cells #[.slice (some ⟨bW,oW,none⟩) ws.length cW,.slice (some ⟨bP,oP,none⟩) ps.length cP] 26 (0,0)):=(hb.block _ (by rw[hW];simp)).trans (by rw[hW];exact zai rfl);exact⟨(zad this).1,(zad this).2.1⟩
 have BW:Hid (zB w W):=by rw[hW];exact zR.alloc zL _
 have hz:w.heap.size<=W.heap.size:=BW.o.size;go_enter Tryz.func167,Tryz.ntmps167;go_wp2;rw[<- hW];clear hW
 go_loopg [6,7] ns.length (fun g a i wr=>∃ (k:Nat) (z:Nat),k+g=ns.length/\z<16/\a=.I z/\i=.I k/\Hid (zB W wr/\res=wk ws ps z (ns.drop k)))
 case atStart=>exact⟨0,0,by omega,by omega,rfl,rfl,zR,HRES.o.symm⟩
 case round =>
  obtain⟨k,z,hk,hz16,rfl,rfl,J⟩:=hrel;obtain⟨x0,x1⟩:=CA.o wr J.o.1;have B:=zaa (zab BW.o J.o.1 hz);have J1:=zaa J.o.1
  have k0:(0:Int)<=(k:Int):=by omega
  have z0:(0:Int)<=(z:Int):=by omega
  have z1:(z:Int)<(ws.length:Int):=by have:=L16.o;omega
  by_cases hlt:k<ns.length
  ·have k1:(k:Int)<(ns.length:Int):=by omega
   have y0:=HW.o wr B.o z hz16
   have JD:Hid (res=wk ws ps z (ns[k]::ns.drop (k+1))):=by unfold Hid;rw[J.o.2,List.drop_eq_getElem_cons hlt]
   obtain⟨bL,oL,rfl,hblL,hcell⟩:=HN.o (by omega);have n0:=(B.o.cell (p:=⟨bL,oL+k,none⟩) hblL).trans (hcell k hlt);have WN:=zaa (fun(h:¬ zag ws z=2)=>zhk (ps:=ps) (n:=ns[k]) (ns:=ns.drop (k+1)) h);have WO:=zaa (fun(h:zag ws z=2) (e:zbj ps z ns[k]=none)=>zjz (ns:=ns.drop (k+1)) h e);have WS:=zaa (fun(h:zag ws z=2) (j:Nat) (e:zbj ps z ns[k]=some j)=>zgc (ns:=ns.drop (k+1)) h e);have EI:=zaa (show zjr ps z ns[k]=match zbj ps z ns[k]with | none=>-1 | some k=>(k:Int)from rfl);have CR2:=zaa (fun(j:Nat) (e:zbj ps z ns[k]=some j)=>CR.o _ _ _ e);have LE2:=zaa (fun w1 (hb:zB wr w1)=>LE.o (z:Int) ns[k] w1 (HR.o.below (zab B.o hb B.o.size)));clear J hcell;generalize zag ws z=kk at *;clear HRES;generalize ns[k]=nm at *
   by_cases q:kk=2
   case neg =>
    have q1:(kk != 2)=true:=by rw[bne_iff_ne];exact q
    obtain rfl:=JD.o.trans (WN.o q);clear q WN WO WS EI CR2 LE2;go_wp2;go_ret2;exact⟨rfl,B.o⟩
   have q1:(kk != 2)=false:=by rw[q];rfl
   have SK:Hid (∀ w',zB wr w'->(w'.cell? ⟨w.heap.size,0,none⟩=some (.slice (some ⟨bW,oW,none⟩) ws.length cW)/\w'.cell? ⟨w.heap.size,1,none⟩=some (.slice (some ⟨bP,oP,none⟩) ps.length cP))/\w'.cell? ⟨bL,oL+k,none⟩=some (.string nm)):=fun w' hb=>⟨CA.o w' (zab J1.o hb J1.o.size),(hb.cell (p:=⟨bL,oL+k,none⟩) (Nat.lt_of_lt_of_le hblL B.o.size)).trans n0⟩
   cases e:zbj ps z nm with
   | none =>
    have W2:=zaa (JD.o.trans (WO.o q e));rw[e]at EI;obtain rfl:=W2.o;have EI2:Hid (zjr ps z nm=-1):=EI;rw[EI2.o]at LE2;clear q WN WO WS EI CR2 W2 JD e;go_wp2_with fail
    go_region_held3 (fun w'=>(w'.cell? ⟨w.heap.size,0,none⟩=some (.slice (some ⟨bW,oW,none⟩) ws.length cW)/\w'.cell? ⟨w.heap.size,1,none⟩=some (.slice (some ⟨bP,oP,none⟩) ps.length cP))/\w'.cell? ⟨bL,oL+k,none⟩=some (.string nm))
     (exact SK.o _ (by repeat (first | exact BF.o | exact zR | refine Below.drew ?_)))
     (first
      | (go_at_call 50;refine(LE2.o _ (by repeat (first | exact zR | refine Below.drew ?_))).mono ?_;rintro e w1 ⟨rfl,hb1⟩;have BF:Hid (zB wr w1):=(by first | exact hb1 | exact zab (by repeat (first | exact zR | refine Below.drew ?_)) hb1 zL);clear hb1))
    all_goals
     have B3:=zaa (zab B.o BF.o B.o.size);clear SK x0 x1 y0 n0;go_wp2;go_ret2;exact⟨rfl,(by repeat (first | exact B3.o | refine Below.drew ?_))⟩
   | some j =>
    have W2:=zaa (JD.o.trans (WS.o q j e));obtain⟨hj,c1,c2⟩:=CR2.o j e;rw[e]at EI;have EI2:Hid (zjr ps z nm=(j:Int)):=EI;rw[EI2.o]at LE2
    obtain⟨y,hy⟩:∃ y:Nat,zap ps j=(y:Int):=⟨(zap ps j).toNat,by omega⟩
    have HJ:=zaa (fun w' (hb:zB w w')=>HP.o w' hb j hj);rw[hy]at HJ W2
    have y16:y<16:=by omega
    have j0:(0:Int)<=(j:Int):=by omega
    have j1:(j:Int)<(ps.length:Int):=by omega
    have j2:¬ (j:Int)<0:=by omega
    clear q WN WO WS EI CR2 JD e hy c1 c2;go_wp2_with fail
    go_region_held3 (fun w'=>(w'.cell? ⟨w.heap.size,0,none⟩=some (.slice (some ⟨bW,oW,none⟩) ws.length cW)/\w'.cell? ⟨w.heap.size,1,none⟩=some (.slice (some ⟨bP,oP,none⟩) ps.length cP))/\w'.cell? ⟨bL,oL+k,none⟩=some (.string nm))
     (exact SK.o _ (by repeat (first | exact BF.o | exact zR | refine Below.drew ?_)))
     (first
      | (go_at_call 50;refine(LE2.o _ (by repeat (first | exact zR | refine Below.drew ?_))).mono ?_;rintro e w1 ⟨rfl,hb1⟩;have BF:Hid (zB wr w1):=(by first | exact hb1 | exact zab (by repeat (first | exact zR | refine Below.drew ?_)) hb1 zL);clear hb1))
    all_goals
     have B3:=zaa (zab B.o BF.o B.o.size);have B4:=zaa (zab J1.o BF.o J1.o.size);have p1:=(SK.o _ BF.o).1.2;have p2:=HJ.o _ B3.o;clear SK x0 x1 y0 n0;go_wp2
     go_roundg (ns.length-(k+1))
     case measure=>omega
     case rel=>exact⟨k+1,y,by omega,y16,rfl,by go_num,(by repeat (first | exact B4.o | refine Below.drew ?_)),W2.o⟩
  ·obtain rfl:k=ns.length:=by omega
   have E:Hid (res=((z:Int),0)):=by unfold Hid;rw[J.o.2,List.drop_length];rfl
   clear HRES J;obtain rfl:=E.o;go_wp2;go_ret2;exact⟨rfl,B.o⟩
def putA(w:World)(b:Nat)(x y z:Value):World:=(((w.setCell ⟨b,0,none⟩ x).setCell ⟨b,1,none⟩ y).setCell ⟨b,2,none⟩ z)
theorem yaac(w:World)(b:Nat)(x y z:Value):Outside b (b+1) w (putA w b x y z):=by
 unfold putA
 repeat (refine Outside.setCell ?_ (by simp only;omega) (by simp only;omega) _)
 exact Outside.refl _ _ _
theorem yaqc(w:World)(a:Option Addr)(c:Nat)(h:a=none->c=0):RdM w (.slice a 0 c) []:=⟨rfl,_,_,rfl,⟨Nat.zero_le _,h⟩,fun h=>absurd h (by simp)⟩
theorem yajc(w:World)(b:Nat):RdT w (.slice (some ⟨b,0,none⟩) 0 0) []:=⟨rfl,_,_,rfl,⟨Nat.le_refl _,fun e=>by cases e⟩,fun h=>absurd h (by simp)⟩
theorem zwx(v:Value)(ws es hs:List Int)(cd vl:Int)(nm:List ByteArray)(w:World)(h:RdFs w v ws es hs [] cd vl nm true)(h1:3<=ws.length)(h2:3<=es.length)(hh:3<=hs.length) :
  zC 110 #[v] w fun e w'=>∃ v' a n c,e=.returned (.tuple #[v',.agg #[.I cd,.I vl,.slice a n c],.I 0])/\RdFs w' v' ws es hs [] 0 0 [] false/\zB w w':=by
 have H1:=zaa h1;have H2:=zaa h2;have HH:=zaa hh;obtain⟨aW,cW,aP,cP,aS,cS,aQ,cQ,aH,cH,aT,cT,aN,cN,rfl,a,b,c,d⟩:=h;have RD:=zaa a;have RH:=zaa b;have RT:=zaa c;clear a b c d h1 h2 hh;rw[show([]:List Mi).length=0 from rfl]at RT ⊢
 obtain⟨V,hV⟩:=zE (((w.alloc (.cells #[.slice aW ws.length cW,.slice aP 0 cP,.slice aS es.length cS,.slice aQ 0 cQ,.slice aH hs.length cH,.slice aT 0 cT,.I cd,.I vl,.slice aN nm.length cN,.bool true] 83)).alloc (.cells zdr.toArray 83)).alloc (.cells #[.I 0,.I 0,.N] 81))
 have HZ:Hid (V.heap.size=w.heap.size+1+1+1):=by rw[hV];simp[Hid]
 have BV:Hid (zB w V):=by rw[hV];exact((zR.alloc zL _).alloc (by simp) _).alloc (by simp<;>omega) _
 have XV:Hid (V.heap[w.heap.size]?=some (.cells #[.slice aW ws.length cW,.slice aP 0 cP,.slice aS es.length cS,.slice aQ 0 cQ,.slice aH hs.length cH,.slice aT 0 cT,.I cd,.I vl,.slice aN nm.length cN,.bool true] 83 (0,0))):=by rw[hV];exact zak (zak (zai rfl))
 have YV:Hid (V.heap[w.heap.size+1]?=some (.cells zdr.toArray 83 (0,0))):=by rw[hV];exact zak (zai (by simp))
 have ZV:Hid (V.heap[w.heap.size+1+1]?=some (.cells #[.I 0,.I 0,.N] 81 (0,0))):=by rw[hV];exact zai (by simp)
 unfold zdr at hV;go_enter Tryz.func110,Tryz.ntmps110;go_upto_region 1 with fail;rw[<- hV];clear hV
 obtain⟨V2,hV2⟩:=zE ((V.alloc (.cells #[] 9)).alloc (.cells #[.I 0,.I 0,.slice (some ⟨V.heap.size,0,none⟩) 0 0] 81))
 have B2:Hid (zB V V2):=by rw[hV2];exact(zR.alloc zL _).alloc (by simp) _
 have N2:Hid (V2.heap[V.heap.size+1]?=some (.cells #[.I 0,.I 0,.slice (some ⟨V.heap.size,0,none⟩) 0 0] 81 (0,0))):=by rw[hV2];exact zai (by simp)
 have Z2:Hid (V2.heap.size=V.heap.size+1+1):=by rw[hV2];simp[Hid]
 have X2:=zaa ((B2.o.block _ (by have q1:=HZ.o;have q2:=Z2.o;omega)).trans XV.o);go_upto_region 2 with fail;rw[<- hV2];clear hV2;obtain⟨x0,x1,x2,x3,x4,x5,x6,x7,x8,x9,-⟩:=zaj X2.o
 obtain⟨V3,hV3⟩:=zE (V2.alloc (.cells #[.I cd,.I vl,.slice aN nm.length cN] 81))
 have B3:Hid (zB V2 V3):=by rw[hV3];exact zR.alloc zL _
 have A3:Hid (V3.heap[V2.heap.size]?=some (.cells #[.I cd,.I vl,.slice aN nm.length cN] 81 (0,0))):=by rw[hV3];exact zai rfl
 have Z3:Hid (V3.heap.size=V2.heap.size+1):=by rw[hV3];simp[Hid]
 have X3:=zaa ((B3.o.block _ (by have q1:=HZ.o;have q2:=Z2.o;have q3:=Z3.o;omega)).trans X2.o);have N3:=zaa ((B3.o.block _ (by have q1:=HZ.o;have q2:=Z2.o;have q3:=Z3.o;omega)).trans N2.o);have BB3:=zaa (zab B2.o B3.o (by have q1:=HZ.o;have q2:=Z2.o;have q3:=Z3.o;omega));go_upto_region 7 with fail;rw[<- hV3];clear hV3 x0 x1 x2 x3 x4 x5 x6 x7 x8 x9 N2 X2 XV;obtain⟨x0,x1,x2,x3,x4,x5,x6,x7,x8,x9,g0,g1,g2,g3,g4,g5,g6,g7,g8,g9⟩:=zaj X3.o;obtain⟨n0,n1,n2,-,-,-⟩:=tri3 N3.o
 obtain⟨V4,hV4⟩:=zE ((((V3.setCell ⟨w.heap.size,6,none⟩ (.I 0)).setCell ⟨w.heap.size,7,none⟩ (.I 0)).setCell ⟨w.heap.size,8,none⟩ (.slice (some ⟨V.heap.size,0,none⟩) 0 0)).setCell ⟨w.heap.size,9,none⟩ (.bool false))
 have X4:Hid (V4.heap[w.heap.size]?=some (.cells #[.slice aW ws.length cW,.slice aP 0 cP,.slice aS es.length cS,.slice aQ 0 cQ,.slice aH hs.length cH,.slice aT 0 cT,.I 0,.I 0,.slice (some ⟨V.heap.size,0,none⟩) 0 0,.bool false] 83 (0,0))):=by rw[hV4];exact zlz (zjn (zls (zlp X3.o _) _) _) _
 have O4:Hid (Outside w.heap.size (w.heap.size+1) V3 V4):=by
  rw[hV4];unfold Hid
  repeat (refine Outside.setCell ?_ (by simp only;omega) (by simp only;omega) _)
  exact Outside.refl _ _ _
 have S4:=zaa (Soft.outside O4.o X3.o rfl)
 have Z5:Hid (V3.heap.size=V4.heap.size):=by rw[hV4];simp[World.setCell,Hid]
 have A4:=zaa ((O4.o.block _ (by have q1:=HZ.o;have q2:=Z2.o;have q3:=Z3.o;have q5:=Z5.o;omega) (by have q1:=HZ.o;have q2:=Z2.o;have q3:=Z3.o;have q5:=Z5.o;omega)).trans A3.o);have Y4:=zaa ((O4.o.block (w.heap.size+1) (by have q1:=HZ.o;have q2:=Z2.o;have q3:=Z3.o;have q5:=Z5.o;omega) (by have q1:=HZ.o;have q2:=Z2.o;have q3:=Z3.o;have q5:=Z5.o;omega)).trans ((BB3.o.block _ (by have q1:=HZ.o;have q2:=Z2.o;have q3:=Z3.o;have q5:=Z5.o;omega)).trans YV.o));have Z4:=zaa ((O4.o.block (w.heap.size+1+1) (by have q1:=HZ.o;have q2:=Z2.o;have q3:=Z3.o;have q5:=Z5.o;omega) (by have q1:=HZ.o;have q2:=Z2.o;have q3:=Z3.o;have q5:=Z5.o;omega)).trans ((BB3.o.block _ (by have q1:=HZ.o;have q2:=Z2.o;have q3:=Z3.o;have q5:=Z5.o;omega)).trans ZV.o));have B4:=zaa ((zab BV.o BB3.o (by have q1:=HZ.o;have q2:=Z2.o;have q3:=Z3.o;have q5:=Z5.o;omega)).trans (O4.o.below (B:=w.heap.size) zL (by have q1:=HZ.o;have q2:=Z2.o;have q3:=Z3.o;have q5:=Z5.o;omega)));have SV:=zaa ((Soft.of_below BB3.o).trans S4.o);go_upto_region 9 with fail;rw[<- hV4];clear hV4 x0 x1 x2 x3 x4 x5 x6 x7 x8 x9 g0 g1 g2 g3 g4 g5 g6 g7 g8 g9 n0 n1 n2 X3 N3 A3 YV ZV;obtain⟨x0,x1,x2,x3,x4,x5,x6,x7,x8,x9,-⟩:=zaj X4.o;obtain⟨n0,n1,n2,-,-,-⟩:=tri3 A4.o;have Y4':V4.heap[w.heap.size+1]?=some (.cells #[.N,.N,.N,.N,.N,.N,.I 0,.I 0,.N,.bool false] 83 (0,0)):=Y4.o;obtain⟨y0,y1,y2,y3,y4,y5,y6,y7,y8,y9,g0,g1,g2,g3,g4,g5,g6,g7,g8,g9⟩:=zaj Y4';obtain⟨m0,m1,m2,k0,k1,k2⟩:=tri3 Z4.o;clear Y4'
 have eV:V2.heap.size=w.heap.size+1+1+1+1+1:=by rw[Z2.o,HZ.o]
 rw[eV]at n0 n1 n2 ⊢;have O5:=zaa (zbt V4 (w.heap.size+1) (.slice aW ws.length cW) (.slice aP 0 cP) (.slice aS es.length cS) (.slice aQ 0 cQ) (.slice aH hs.length cH) (.slice aT 0 cT) (.I 0) (.I 0) (.slice (some ⟨V.heap.size,0,none⟩) 0 0) (.bool false));have E5:=zaa (zpl V4 (w.heap.size+1) (.slice aW ws.length cW) (.slice aP 0 cP) (.slice aS es.length cS) (.slice aQ 0 cQ) (.slice aH hs.length cH) (.slice aT 0 cT) (.I 0) (.I 0) (.slice (some ⟨V.heap.size,0,none⟩) 0 0) (.bool false));have S5:=zaa (Soft.outside O5.o Y4.o rfl);have Z6:=zaa ((O5.o.block (w.heap.size+1+1) (by have q1:=HZ.o;have q2:=Z2.o;have q3:=Z3.o;have q5:=Z5.o;omega) (by omega)).trans Z4.o);have B5:=zaa (B4.o.trans (O5.o.below (B:=w.heap.size) (by omega) (by have q1:=HZ.o;have q2:=Z2.o;have q3:=Z3.o;have q5:=Z5.o;omega)))
 obtain⟨V5,hV5⟩:=zE (zfp V4 (w.heap.size+1) (.slice aW ws.length cW) (.slice aP 0 cP) (.slice aS es.length cS) (.slice aQ 0 cQ) (.slice aH hs.length cH) (.slice aT 0 cT) (.I 0) (.I 0) (.slice (some ⟨V.heap.size,0,none⟩) 0 0) (.bool false))
 rw[<- hV5]at O5 S5 Z6 B5 E5;have O6:=zaa (yaac V5 (w.heap.size+1+1) (.I cd) (.I vl) (.slice aN nm.length cN));have S6:=zaa (((SV.o.trans S5.o).trans (Soft.outside O6.o Z6.o rfl)).drew);have B6:=zaa (B5.o.trans (O6.o.below (B:=w.heap.size) (by omega) (by have q6:=E5.o;have q1:=HZ.o;have q2:=Z2.o;have q3:=Z3.o;have q5:=Z5.o;omega))).drew
 have F6:Hid (RdFs (putA V5 (w.heap.size+1+1) (.I cd) (.I vl) (.slice aN nm.length cN)).drew (.agg #[.slice aW ws.length cW,.slice aP 0 cP,.slice aS es.length cS,.slice aQ 0 cQ,.slice aH hs.length cH,.slice aT 0 cT,.I 0,.I 0,.slice (some ⟨V.heap.size,0,none⟩) 0 0,.bool false]) ws es hs [] 0 0 [] false) :=
  ⟨aW,cW,aP,cP,aS,cS,aQ,cQ,aH,cH,aT,cT,_,_,rfl,(RD.o.below BV.o).soft S6.o H1.o H2.o,RdI.soft (Rd.below RH.o BV.o) S6.o HH.o,RdM.soft (Rd.below RT.o BV.o) S6.o,yajc _ _⟩
 unfold zfp at hV5;clear O5 S5 Z6 B5 E5 O6 S6 SV S4 O4 X4 A4 Y4 Z4 B4 BB3 B3 B2 Z2 Z3 Z5 RD RH RT;go_wp2_with fail
 go_region
 all_goals
  go_wp2_with fail;rw[<- hV5];refine bodyPost_ret (v:=.tuple #[.agg #[.slice aW ws.length cW,.slice aP 0 cP,.slice aS es.length cS,.slice aQ 0 cQ,.slice aH hs.length cH,.slice aT 0 cT,.I 0,.I 0,.slice (some ⟨V.heap.size,0,none⟩) 0 0,.bool false],.agg #[.I cd,.I vl,.slice aN nm.length cN],.I 0]) (by simp[results,Tryz.results110,go_sem,hV5,y0,y1,y2,y3,y4,y5,y6,y7,y8,y9,m0,m1,m2]) rfl ?_;exact⟨_,_,_,_,rfl,F6.o,B6.o⟩
end Go.Proofs.YtfagbapgnocjiaaGreatDoor
