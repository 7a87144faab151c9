import Derived.Test.YtdiaiejmoocpmaaGreatDoorZBQ
set_option maxRecDepth 100000
set_option maxHeartbeats 8000000
namespace Go.Proofs.YtdiaiejmoocpmaaGreatDoor
open Go.RowKit
def zka(s:ByteArray):ByteArray:=mkB (Lib.trimPrefix s.data.toList [47])
def ztr(s:ByteArray):Bool:=Lib.hasPrefix s.data.toList [47]
theorem yaqh{s:ByteArray}(h:ztr s=false):spN s=false:=by
 unfold ztr Lib.hasPrefix at h;unfold spN
 cases hl:s.data.toList with
 | nil=>rw[yatw hl];rfl
 | cons c l =>
  have hc:¬ c=47:=fun e=>by subst e;rw[hl]at h;simp[List.isPrefixOf]at h
  obtain⟨x,r,e,hx⟩:=yalo hl hc;rw[e]
  have:x.toList.isEmpty=false:=by
   rw[Lib.toList_data];rw[Lib.size_eq]at hx
   cases h:x.data.toList with
   | nil=>rw[h]at hx;exact absurd rfl hx
   | cons _ _=>rfl
  show(_&&(x.toList.isEmpty&&_))=false
  rw[this];simp
theorem yamy{s:ByteArray}(h:ztr s=true):spN s=(decide ((pcs (zka s)).length<=6)&&(pcs (zka s)).all nmB)/\(pcs s).drop 1=pcs (zka s):=by
 unfold ztr Lib.hasPrefix at h
 cases hl:s.data.toList with
 | nil=>rw[hl]at h;simp[List.isPrefixOf]at h
 | cons c l =>
  have hc:c=47:=by rw[hl]at h;simp[List.isPrefixOf]at h;exact h.symm
  subst hc
  have hr:zka s=mkB l:=by unfold zka Lib.trimPrefix Lib.hasPrefix;rw[hl];simp[List.isPrefixOf]
  have hp:=yaor hl;have p1:=yapo (zka s);unfold spN;rw[hp,hr];rw[hr]at p1;refine⟨?_,rfl⟩;have e1:(mkB []::pcs (mkB l)).length=(pcs (mkB l)).length+1:=rfl;rw[e1]
  have e2:decide (2<=(pcs (mkB l)).length+1/\(pcs (mkB l)).length+1<=7)=decide ((pcs (mkB l)).length<=6):=by
   by_cases q:(pcs (mkB l)).length<=6
   ·rw[decide_eq_true q,decide_eq_true (by omega)]
   ·rw[decide_eq_false q,decide_eq_false (by omega)]
  rw[e2]
  have e3:((mkB []::pcs (mkB l)).getD 0 ⟨#[]⟩).toList.isEmpty=true:=by
   show(mkB []).toList.isEmpty=true
   rw[Lib.toList_data,zjy];rfl
  rw[e3];rfl
theorem yaoy(s:ByteArray):(zka s).size<=s.size:=by
 unfold zka;rw[Lib.size_eq,zjy,Lib.size_eq];unfold Lib.trimPrefix
 split
 ·rw[List.length_drop];omega
 ·exact Nat.le_refl _
theorem zwp(v:Value)(ss:List ByteArray)(w:World)(h:RdT w v ss)(hn:ss.length<=1048576)(hs:∀ k (h:k<ss.length),ss[k].size<=maxLen) :
  zC 169 #[v,.func (.func 170) #[] #[]] w fun e w'=>e=.returned (.bool (ss.all nmB))/\zB w w':=by
 obtain⟨aP,cP,rfl,_,hcP⟩:=h.shape;have HP:=zaa hcP;have HS:=zaa hs
 have SF:Hid (∀ j (h:j<ss.length),nmB ss[j]=false->ss.all nmB=false):=fun j h q=>by
  rw[List.all_eq_false];exact⟨ss[j],List.getElem_mem _,by rw[q];simp⟩
 have SA:Hid ((∀ j (h:j<ss.length),nmB ss[j]=true)->ss.all nmB=true):=fun h=>by
  rw[List.all_eq_true];intro x hx;obtain⟨j,hj,rfl⟩:=List.getElem_of_mem hx;exact h j hj
 clear h hcP hs;go_enter Tryz.func169,Tryz.ntmps169;go_wp2
 go_loopw [6,9] (fun _ i wr=>∃ k:Nat,k<=ss.length/\i=.I k/\Hid (zB w wr/\∀ j (h:j<ss.length),j<k->nmB ss[j]=true)) (fun _ i _=>ss.length-(intOf i).toNat)
 case atStart=>exact⟨0,by omega,rfl,zR,fun j h a=>absurd a (by omega)⟩
 case round =>
  obtain⟨k,hk,rfl,H⟩:=hrel;have H1:=zaa H.o.1;have hz:w.heap.size<=wr.heap.size:=H.o.1.size
  by_cases hlt:k<ss.length
  ·obtain⟨b,o,rfl,hbl,hcell⟩:=HP.o (by omega);have d0:=(H1.o.cell (p:=⟨b,o+k,none⟩) hbl).trans (hcell k hlt)
   have k0:(0:Int)<=(k:Int):=by omega
   have k1:(k:Int)<(ss.length:Int):=by omega
   have LI:=zaa (fun w1=>zjj ss[k] w1 (HS.o k hlt));have H2:Hid (∀ j (h:j<ss.length),j<k->nmB ss[j]=true):=H.o.2;clear hcell H
   cases q:nmB ss[k] with
   | true =>
    have H':Hid (∀ j (h:j<ss.length),j<k+1->nmB ss[j]=true):=fun j h a=>by
     by_cases e:j=k
     ·subst e;exact q
     ·exact H2.o j h (by omega)
    rw[q]at LI;clear q H2;generalize ss[k]=x at d0 LI;go_wp2_with fail;refine(LI.o _).mono ?_;rintro e w1 ⟨rfl,hb1⟩;have B3:=zaa (zab H1.o hb1 H1.o.size);clear hb1 d0;go_wp2
    go_roundw
    case rel=>exact⟨k+1,by omega,by go_num,B3.o,H'.o⟩
    case measure=>simp[intOf];omega
   | false =>
    have E:=zaa (SF.o k hlt q);rw[q]at LI;clear q H2;generalize ss[k]=x at d0 LI;go_wp2_with fail;refine(LI.o _).mono ?_;rintro e w1 ⟨rfl,hb1⟩;have B3:=zaa (zab H1.o hb1 H1.o.size);clear hb1 d0;go_wp2;go_ret;exact⟨zag E.o.symm,B3.o⟩
  ·have E:=zaa (SA.o (fun j h=>H.o.2 j h (by omega)));clear H;go_wp2;go_ret;exact⟨zag E.o.symm,H1.o⟩
theorem yarb(w:World)(P:List ByteArray)(h:P.length<=1048576):Row (w.alloc (.cells (zfl P).toArray 9)) 9 1 w.heap.size (w.alloc (.cells (zfl P).toArray 9)).heap.size (.slice (some ⟨w.heap.size,0,none⟩) P.length P.length) P.length (zfl P):=by
 have:=World.ownsRow_lit (e:=9) (size:=1) (base:=w.heap.size) w (zfl P).toArray P.length zL (by simp[maxLen];omega) (by simp[zfl]);exact zad this
theorem zny(s:ByteArray)(w:World) :
  zC 135 #[.string s] w fun e w'=>∃ v',e=.returned (.tuple #[v',.I (spC s)])/\Row w' 9 1 w.heap.size w'.heap.size v' (spR s).length (zfl (spR s))/\zB w w':=by
 by_cases c1:65536<s.size
 ·obtain⟨E1,E2⟩:=yajq c1;rw[E1,E2]
  have c2:(s.size:Int)>65536:=by omega
  clear c1 E1 E2;go_enter Tryz.func135,Tryz.ntmps135;go_wp2;go_ret2;exact⟨_,rfl,Row.nil _ _ _ _ _,zR⟩
 have c2:¬ (s.size:Int)>65536:=by omega
 obtain⟨X1,X2⟩:=zxb c1
 cases c3:zrt s with
 | true =>
  obtain⟨E1,E2⟩:=yafk c3;obtain⟨E3,E4⟩:=X1 E1;rw[E3,E4,E2];have c4:(s.toList == [47])=true:=c3;clear c1 c3 E1 E2 E3 E4 X1 X2;go_enter Tryz.func135,Tryz.ntmps135;go_wp2;go_ret2;exact⟨_,rfl,Row.nil _ _ _ _ _,zR⟩
 | false =>
 have c4:(s.toList == [47])=false:=c3
 have NO:Hid (spN s=false->spC s=12/\spR s=[]):=fun h=>X2 (ybap c3 h).1
 have YES:Hid (spN s=true->spC s=0/\spR s=(pcs s).drop 1):=fun h=>by
  obtain⟨a,b⟩:=yaup c3 h;obtain⟨c,d⟩:=X1 a;exact⟨c,d.trans b⟩
 have LP:Hid (∀ w1:World,zC 167 #[.string s,.string ⟨#[47]⟩] w1 fun e w'=>e=.returned (.tuple #[.string (zka s),.bool (ztr s)])/\w'=w1):=fun w1=>zuv s ⟨#[47]⟩ w1
 have RS:=yaoy s;have LS:=zaa (fun w1=>yabg (zka s) w1 (by omega));have PL:=yale (zka s);have RW:=zaa (fun w1=>yarb w1 (pcs (zka s)) (by omega));have LE:=zaa (fun v w1 h=>zwp v (pcs (zka s)) w1 h (by omega) (fun k hk=>by have:=yagi (zka s) k hk;unfold maxLen;omega));have AN:=zaa (fun h=>yaqh (s:=s) h);have AY:=zaa (fun h=>yamy (s:=s) h);have BE:=zaa (fun w1:World=>(Below.refl w1.heap.size w1).alloc zL (.cells (zfl (pcs (zka s))).toArray 9));clear c1 c3 X1 X2;generalize spC s=sc at *;generalize spR s=sr at *;generalize spN s=sn at *;generalize (pcs s).drop 1=P1 at *;generalize hRS:zka s=R at *;generalize ztr s=ah at *;generalize pcs R=P at *;clear hRS
 cases ah with
 | false =>
  obtain⟨e1,e2⟩:=NO.o (AN.o rfl);subst e1 e2;clear NO YES AN AY LE RW;go_enter Tryz.func135,Tryz.ntmps135;go_wp2_with fail;refine(LP.o _).mono ?_;rintro e w1 ⟨rfl,hw1⟩;subst w1;go_wp2_with fail;refine(LS.o _).mono ?_;rintro e w1 ⟨rfl,hw1⟩;have B1:=zaa (BE.o w);rw[<- hw1]at B1;clear hw1;go_wp2;go_ret2;exact⟨_,rfl,Row.nil _ _ _ _ _,B1.o⟩
 | true =>
 obtain⟨a1,a2⟩:=AY.o rfl;have A1:=zaa a1;rw[a2]at YES;clear a2 AY
 by_cases n1:P.length<=6
 case neg =>
  obtain⟨e1,e2⟩:=NO.o (by rw[A1.o,decide_eq_false n1];rfl)
  have n2:(P.length:Int)>6:=by omega
  subst e1 e2;clear NO YES AN LE RW A1 a1;go_enter Tryz.func135,Tryz.ntmps135;go_wp2_with fail;refine(LP.o _).mono ?_;rintro e w1 ⟨rfl,hw1⟩;subst w1;go_wp2_with fail;refine(LS.o _).mono ?_;rintro e w1 ⟨rfl,hw1⟩;have B1:=zaa (BE.o w);rw[<- hw1]at B1;clear hw1;go_wp2;go_ret2;exact⟨_,rfl,Row.nil _ _ _ _ _,B1.o⟩
 have n2:¬ (P.length:Int)>6:=by omega
 have A2:Hid (sn=P.all nmB):=by unfold Hid;rw[A1.o,decide_eq_true n1];rfl
 clear A1 a1
 cases c5:P.all nmB with
 | false =>
  obtain⟨e1,e2⟩:=NO.o (by rw[A2.o,c5]);rw[c5]at LE;subst e1 e2;clear NO YES AN A2 c5;go_enter Tryz.func135,Tryz.ntmps135;go_wp2_with fail;refine(LP.o _).mono ?_;rintro e w1 ⟨rfl,hw1⟩;subst w1;go_wp2_with fail;refine(LS.o _).mono ?_;rintro e w1 ⟨rfl,hw1⟩;have B1:=zaa (BE.o w);have R1:=zaa (RW.o w);rw[<- hw1]at B1 R1;clear hw1 RW BE;go_wp2_with fail;refine(LE.o _ _ R1.o.rd).mono ?_;rintro e w2 ⟨rfl,hb2⟩;have B2:=zaa (zab B1.o hb2 B1.o.size);clear hb2;go_wp2;go_ret2;exact⟨_,rfl,Row.nil _ _ _ _ _,B2.o⟩
 | true =>
  obtain⟨e1,e2⟩:=YES.o (by rw[A2.o,c5]);rw[c5]at LE;subst e1 e2;clear NO YES AN A2 c5;go_enter Tryz.func135,Tryz.ntmps135;go_wp2_with fail;refine(LP.o _).mono ?_;rintro e w1 ⟨rfl,hw1⟩;subst w1;go_wp2_with fail;refine(LS.o _).mono ?_;rintro e w1 ⟨rfl,hw1⟩;have B1:=zaa (BE.o w);have R1:=zaa (RW.o w);rw[<- hw1]at B1 R1;clear hw1 RW BE;go_wp2_with fail;refine(LE.o _ _ R1.o.rd).mono ?_;rintro e w2 ⟨rfl,hb2⟩;have B2:=zaa (zab B1.o hb2 B1.o.size);have R2:=zaa ((R1.o.below hb2 zL).wide zL hb2.size);clear hb2;go_wp2;go_ret2;exact⟨_,rfl,R2.o,B2.o⟩
def yazh(d:Int)(nm:ByteArray)(x:Den):Bool:=x.dir == d&&x.name.toList == nm.toList
theorem yazd{ws:List Ino}{ps:List Den}(h:zck ws ps=true){nm:ByteArray}(hn:1<=nm.size)(d:Int)(k:Nat)(hk:k<ps.length):zcy d nm ps[k]=yazh d nm ps[k]:=by
 unfold zcy yazh
 rcases zps h k hk with ⟨h1,h2⟩ | ⟨h1,_⟩
 ·have:(ps[k].name.toList == nm.toList)=false:=by
   rw[beq_eq_false_iff_ne];intro e;have:=congrArg List.length e;rw[Lib.toList_data,Lib.toList_data,<- Lib.size_eq,<- Lib.size_eq]at this;omega
  rw[this];simp
 ·rw[decide_eq_true (show 0<=ps[k].child by omega),Bool.true_and]
theorem yaid(v vL:Value)(ws:List Ino)(ps:List Den)(ns:List ByteArray)(w:World)(h:RdIm w v ws ps)(hL:RdT w vL ns)(hi:zck ws ps=true)(hn:ns.length<=1048576)(hs:∀ k (h:k<ns.length),1<=ns[k].size) :
  zC 97 #[v,vL] w fun e w'=>e=.returned (.tuple #[.I (wk ws ps 0 ns).1,.I (wk ws ps 0 ns).2])/\zB w w':=by
 have HR:=zaa h;have LD:=zaa (fun(i:Nat) (hi16:i<16) w1 h=>yaap v ws ps (i:Int) w1 h (zba hi).1 (by omega));obtain⟨vW,vP,rfl,h1,h2⟩:=h;obtain⟨aW,cW,rfl,_,_⟩:=h1.shape;obtain⟨aP,cP,rfl,_,hcP⟩:=h2.shape;obtain⟨aL,cL,rfl,_,hcL⟩:=hL.shape;have L24:=zaa (zba hi).2.1;obtain⟨bP,oP,rfl,hblP,hcellP⟩:=hcP (by have:=L24.o;omega)
 have pl:ps.length<=4096:=by have:=L24.o;omega
 have HP:=zaa hcellP;have HN:=zaa hcL;have HS:=zaa hs;have PH:=zaa (fun(nm:ByteArray) (hn:1<=nm.size) d k hk=>yazd hi hn d k hk);have CR:=zaa (fun(d:Int) (nm:ByteArray) (k:Nat) (e:zcc ps d nm=some k)=>zgp hi e);generalize hres:wk ws ps 0 ns=res;have HRES:=zaa hres;clear hres h1 h2 hcP hcellP hcL hL hi hs
 obtain⟨W,hW⟩:=zE (w.alloc (.cells #[.slice aW ws.length cW,.slice (some ⟨bP,oP,none⟩) ps.length cP] 67))
 have CA:Hid (∀ w',zB W w'->w'.cell? ⟨w.heap.size,0,none⟩=some (.slice aW ws.length cW)/\w'.cell? ⟨w.heap.size,1,none⟩=some (.slice (some ⟨bP,oP,none⟩) ps.length cP)):=fun w' hb=>by
  have:w'.heap[w.heap.size]?=some (.cells #[.slice aW ws.length cW,.slice (some ⟨bP,oP,none⟩) ps.length cP] 67 (0,0)):=(hb.block _ (by rw[hW];simp)).trans (by rw[hW];exact zaf rfl);exact⟨(zac this).1,(zac this).2.1⟩
 have BW:Hid (zB w W):=by rw[hW];exact zR.alloc zL _
 have hzW:w.heap.size<=W.heap.size:=BW.o.size;go_enter Tryz.func97,Tryz.ntmps97;go_wp2_with fail;go_step3;go_wp2_with fail;go_step3;go_wp2_with fail;rw[<- hW];clear hW
 go_loopg [6,13] ns.length (fun g a i wr=>∃ (k:Nat) (z:Nat),k+g=ns.length/\z<16/\a=.I z/\i=.I k/\Hid (zB W wr/\res=wk ws ps z (ns.drop k)))
 case atStart=>exact⟨0,0,by omega,by omega,rfl,rfl,zR,HRES.o.symm⟩
 case round =>
  obtain⟨k,z,hk,hz16,rfl,rfl,J⟩:=hrel;obtain⟨x0,x1⟩:=CA.o wr J.o.1;have B:=zaa (zab BW.o J.o.1 hzW);have J1:=zaa J.o.1
  have k0:(0:Int)<=(k:Int):=by omega
  by_cases hlt:k<ns.length
  ·have k1:(k:Int)<(ns.length:Int):=by omega
   have JD:Hid (res=wk ws ps z (ns[k]::ns.drop (k+1))):=by unfold Hid;rw[J.o.2,List.drop_eq_getElem_cons hlt]
   obtain⟨bL,oL,rfl,hblL,hcell⟩:=HN.o (by omega);have n0:=(B.o.cell (p:=⟨bL,oL+k,none⟩) hblL).trans (hcell k hlt);have WN:=zaa (fun(h:¬ zal ws z=2)=>zif (ps:=ps) (n:=ns[k]) (ns:=ns.drop (k+1)) h);have WO:=zaa (fun(h:zal ws z=2) (e:zcc ps z ns[k]=none)=>zkr (ns:=ns.drop (k+1)) h e);have WS:=zaa (fun(h:zal ws z=2) (j:Nat) (e:zcc ps z ns[k]=some j)=>zlc (ns:=ns.drop (k+1)) h e);have PK:=zaa (fun j hj=>PH.o ns[k] (HS.o k hlt) (z:Int) j hj);have CR2:=zaa (fun(j:Nat) (e:zcc ps z ns[k]=some j)=>CR.o _ _ _ e);have LD2:=zaa (fun w1 h=>LD.o z hz16 w1 h);clear J hcell HRES;generalize zal ws (z:Int)=kk at *;generalize ns[k]=nm at *
   by_cases q:kk=2
   case neg =>
    have q1:(kk == 2)=false:=by rw[beq_eq_false_iff_ne];exact q
    rw[q1]at LD2;obtain rfl:=JD.o.trans (WN.o q);clear q q1 WN WO WS CR2 PK;go_wp2_with fail;refine(LD2.o _ (HR.o.below B.o)).mono ?_;rintro e w1 ⟨rfl,hb1⟩;have B1:=zaa (zab B.o hb1 B.o.size);clear hb1 x0 x1 n0;go_wp2
    try rw[Exit.noGoto_ret]
    go_ret2;exact⟨rfl,B1.o⟩
   have q1:(kk == 2)=true:=by rw[q];rfl
   rw[q1]at LD2;clear q1;have Q:=zaa q;clear q;go_wp2_with fail;refine(LD2.o _ (HR.o.below B.o)).mono ?_;rintro e w1 ⟨rfl,hb1⟩;have B1:=zaa (zab B.o hb1 B.o.size);have J2:=zaa (zab J1.o hb1 J1.o.size);clear hb1 x0 x1 n0 LD2;obtain⟨x0,x1⟩:=CA.o w1 J2.o;generalize gk=G0 at *;have hz1:w.heap.size<=w1.heap.size:=B1.o.size;clear B J1;go_wp2_with fail
   go_loopg [6,24] ps.length (fun g2 a i wq=>∃ j:Nat,j+g2=ps.length/\a=.I z/\i=.I j/\Hid (zB w1 wq/\∀ m (h:m<ps.length),m<j->zcy (z:Int) nm ps[m]=false))
   case atStart=>exact⟨0,by omega,rfl,rfl,zR,fun m h a=>absurd a (by omega)⟩
   case round =>
    obtain⟨j,hj,rfl,rfl,K⟩:=hrel;have KW:=zaa (zab B1.o K.o.1 hz1);have K2:=zaa (zab J2.o K.o.1 J2.o.size)
    have j0:(0:Int)<=(j:Int):=by omega
    by_cases hlj:j<ps.length
    ·obtain⟨a0,a1,a2⟩:=HP.o j hlj;have d0:=(KW.o.cell (p:=⟨bP,oP+j*3,none⟩) hblP).trans a0;have d1:=(KW.o.cell (p:=⟨bP,oP+j*3+1,none⟩) hblP).trans a1;have d2:=(KW.o.cell (p:=⟨bP,oP+j*3+2,none⟩) hblP).trans a2
     have j1:(j:Int)<(ps.length:Int):=by omega
     have EH:Hid (zcy (z:Int) nm ps[j]=(ps[j].dir == (z:Int)&&ps[j].name.toList == nm.toList)):=PK.o j hlj;have HY:=zaa (fun e:zcy (z:Int) nm ps[j]=true=>yakc hlj K.o.2 e)
     have HX:=zaa (fun(e:zcy (z:Int) nm ps[j]=false) m (h:m<ps.length) (a:m<j+1)=>show zcy (z:Int) nm ps[m]=false by
      by_cases q:m=j
      ·subst q;exact e
      ·exact K.o.2 m h (by omega))
     have CJ:=zaa (zep hlj);have K1:=zaa K.o.1;clear a0 a1 a2 K;generalize zcy (z:Int) nm ps[j]=hit at *;generalize ps[j].child=y at *;generalize ps[j].dir=yd at *;generalize ps[j].name=yn at *;have BX:=zaa ((Below.refl wr.heap.size wr).alloc zL (.cells #[.I yd,.string yn,.I y] 158));have B5:=zaa (zab K1.o BX.o K1.o.size);have B6:=zaa (zab K2.o BX.o K2.o.size)
     by_cases r:yd=(z:Int)
     case neg =>
      have r1:(yd == (z:Int))=false:=beq_eq_false_iff_ne.2 r;have E:=zaa (HX.o (by rw[EH.o,r1];rfl));clear r HX HY EH;go_wp2
      go_roundg (ps.length-(j+1))
      case measure=>omega
      case rel=>exact⟨j+1,by omega,rfl,by go_num,B5.o,E.o⟩
     have r1:(yd == (z:Int))=true:=beq_iff_eq.2 r
     cases t:(yn.toList == nm.toList) with
     | false =>
      have E:=zaa (HX.o (by rw[EH.o,t];simp));clear r HX HY EH;go_wp2
      go_roundg (ps.length-(j+1))
      case measure=>omega
      case rel=>exact⟨j+1,by omega,rfl,by go_num,B5.o,E.o⟩
     | true =>
      have E1:=HY.o (by rw[EH.o,t,r1];rfl);obtain⟨_,c1,c2⟩:=CR2.o j E1;have W2:=zaa (JD.o.trans (WS.o Q.o j E1));rw[CJ.o]at c1 c2 W2
      obtain⟨yn2,hy⟩:∃ n:Nat,y=(n:Int):=⟨y.toNat,by omega⟩
      subst hy
      have y16:yn2<16:=by omega
      clear r HX HY EH E1 CJ;go_wp2
      go_roundg (ns.length-(k+1))
      case measure=>omega
      case rel=>exact⟨k+1,yn2,by omega,y16,rfl,by go_num,B6.o,W2.o⟩
    ·obtain rfl:j=ps.length:=by omega
     have E:=zaa (JD.o.trans (WO.o Q.o (yava (fun m h=>K.o.2 m h h))));obtain rfl:=E.o;clear K E;go_wp2
     try rw[Exit.noGoto_ret]
     go_ret2;exact⟨rfl,KW.o⟩
  ·obtain rfl:k=ns.length:=by omega
   have E:Hid (res=((z:Int),0)):=by unfold Hid;rw[J.o.2,List.drop_length];rfl
   clear HRES J;obtain rfl:=E.o;go_wp2
   try rw[Exit.noGoto_ret]
   go_ret2;exact⟨rfl,B.o⟩
def siC(ws:List Ino)(ps:List Den)(s:ByteArray):Int:=if 65536<s.size then 2 else if zck ws ps=true then spC s else 1
def siL(ws:List Ino)(ps:List Den)(s:ByteArray):List ByteArray:=if zck ws ps=true then spR s else[]
theorem yakf{s:ByteArray}:∀ k (h:k<(spL s).length),1<=(spL s)[k].size:=by
 intro k hk;have hm:(spL s)[k]∈spL s:=List.getElem_mem hk;generalize (spL s)[k]=x at hm;unfold spL at hm
 split at hm
 ·cases hm
 ·split at hm
  ·rename_i h;unfold spN at h;simp only[Bool.and_eq_true,List.all_eq_true]at h;exact(zfx (h.2.2 x hm)).1
  ·cases hm
theorem ybco(ws:List Ino)(ps:List Den)(s:ByteArray):(¬ siC ws ps s=0->lkR ws ps s=(0,siC ws ps s)/\paR ws ps s=(0,⟨#[]⟩,siC ws ps s))/\(siC ws ps s=0->zck ws ps=true/\siL ws ps s=spL s/\lkR ws ps s=wk ws ps 0 (spL s)/\paR ws ps s=paL ws ps (spL s)):=by
 unfold siC lkR paR siL
 by_cases c1:65536<s.size
 ·rw[if_pos c1,if_pos c1,if_pos c1];exact⟨fun _=>⟨rfl,rfl⟩,fun h=>by cases h⟩
 ·rw[if_neg c1,if_neg c1,if_neg c1]
  by_cases c2:zck ws ps=true
  ·rw[if_pos c2,if_pos c2,if_pos c2,if_pos c2];obtain⟨X1,X2⟩:=zxb c1;unfold lkI paI
   cases c3:spB s with
   | false =>
    obtain⟨e1,e2⟩:=X2 c3;rw[e1,e2];exact⟨fun _=>⟨rfl,rfl⟩,fun h=>by cases h⟩
   | true =>
    obtain⟨e1,e2⟩:=X1 c3;rw[e1,e2];exact⟨fun h=>absurd rfl h,fun _=>⟨c2,rfl,rfl,rfl⟩⟩
  ·rw[if_neg c2,if_neg c2,if_neg c2,if_neg c2];exact⟨fun _=>⟨rfl,rfl⟩,fun h=>by cases h⟩
theorem yaci(v:Value)(ws:List Ino)(ps:List Den)(s:ByteArray)(w:World)(h:RdIm w v ws ps)(hw:ws.length<=1048576)(hp:ps.length<=1048576)(hT:TS w)(hE:ED w)(hF:FD w)(hr:∀ k (h:k<ws.length),ws[k].R)(hs:∀ k (h:k<ps.length),ps[k].name.size<=maxLen) :
  zC 96 #[v,.string s] w fun e w'=>∃ v',e=.returned (.tuple #[v',.I (siC ws ps s)])/\RdT w' v' (siL ws ps s)/\zB w w':=by
 have HR:=zaa h;have LI:=zaa (fun w1 (hb:zB w w1)=>zgk v ws ps w1 (h.below hb) hw hp (hT.below hb) (hE.below hb) (hF.below hb) hr hs);have LS:=zaa (fun w1=>zny s w1);have EC:=zaa (show siC ws ps s=if 65536<s.size then 2 else if zck ws ps=true then spC s else 1 from rfl);have EL:=zaa (show siL ws ps s=if zck ws ps=true then spR s else[]from rfl);have XL:=zaa (fun h=>yajq (s:=s) h)
 have X0:Hid (¬ 65536<s.size->¬ spC s=2):=fun h=>by
  obtain⟨X1,X2⟩:=zxb h
  cases c:spB s
  ·rw[(X2 c).1];decide
  ·rw[(X1 c).1];decide
 obtain⟨vW,vP,rfl,h1,h2⟩:=h;obtain⟨aW,cW,rfl,_,_⟩:=h1.shape;obtain⟨aP,cP,rfl,_,_⟩:=h2.shape;clear h1 h2 hr hs hT hE hF
 have CA:Hid (∀ w',Below (w.alloc (.cells #[.slice aW ws.length cW,.slice aP ps.length cP] 67)).heap.size (w.alloc (.cells #[.slice aW ws.length cW,.slice aP ps.length cP] 67)) w'->w'.cell? ⟨w.heap.size,0,none⟩=some (.slice aW ws.length cW)/\w'.cell? ⟨w.heap.size,1,none⟩=some (.slice aP ps.length cP)):=fun w' hb=>by
  have:w'.heap[w.heap.size]?=some (.cells #[.slice aW ws.length cW,.slice aP ps.length cP] 67 (0,0)):=(hb.block _ (by simp)).trans (zaf rfl);exact⟨(zac this).1,(zac this).2.1⟩
 have BW:Hid (zB w (w.alloc (.cells #[.slice aW ws.length cW,.slice aP ps.length cP] 67))):=zR.alloc zL _;generalize siC ws ps s=sc at *;generalize siL ws ps s=sl at *
 by_cases c1:65536<s.size
 ·obtain⟨e1,e2⟩:=XL.o c1;rw[if_pos c1]at EC
  have E2:Hid (sl=[]):=by unfold Hid;rw[EL.o,e2];split<;>rfl
  rw[e1,e2]at LS;obtain rfl:=EC.o;obtain rfl:=E2.o;clear EC EL E2 c1 e1 e2;go_enter Tryz.func96,Tryz.ntmps96;go_wp2_with fail;refine(LS.o _).mono ?_;rintro e w1 ⟨v1,rfl,hr1,hb1⟩;have B1:=zaa (zab BW.o hb1 BW.o.size);have R1:Hid (RdT w1 v1 []):=hr1.rd;clear hr1 hb1;go_wp2;go_ret2;exact⟨_,rfl,R1.o,B1.o⟩
 have q2:Hid ((spC s != 2)=true):=by unfold Hid;rw[bne_iff_ne];exact X0.o c1
 rw[if_neg c1]at EC;clear XL X0 c1;generalize spC s=cc at *;generalize spR s=rr at *;have q3:=q2.o
 cases c3:zck ws ps with
 | false =>
  rw[c3]at EC EL LI;obtain rfl:=EC.o;obtain rfl:=EL.o;clear EC EL c3;go_enter Tryz.func96,Tryz.ntmps96;go_wp2_with fail;refine(LS.o _).mono ?_;rintro e w1 ⟨v1,rfl,hr1,hb1⟩;have B1:=zaa (zab BW.o hb1 BW.o.size);obtain⟨x0,x1⟩:=CA.o _ hb1;clear hr1 hb1;go_wp2_with fail;refine(LI.o _ B1.o).mono ?_;rintro e w2 ⟨rfl,hb2⟩;have B2:=zaa (zab B1.o hb2 B1.o.size);clear hb2 x0 x1;go_wp2;go_ret2;exact⟨_,rfl,yapa _,B2.o⟩
 | true =>
  rw[c3]at EC EL LI;obtain rfl:sc=cc:=EC.o;obtain rfl:sl=rr:=EL.o;clear EC EL c3;go_enter Tryz.func96,Tryz.ntmps96;go_wp2_with fail;refine(LS.o _).mono ?_;rintro e w1 ⟨v1,rfl,hr1,hb1⟩;have B1:=zaa (zab BW.o hb1 BW.o.size);have R1:Hid (RdT w1 v1 sl):=hr1.rd;obtain⟨x0,x1⟩:=CA.o _ hb1;clear hr1 hb1;go_wp2_with fail;refine(LI.o _ B1.o).mono ?_;rintro e w2 ⟨rfl,hb2⟩;have B2:=zaa (zab B1.o hb2 B1.o.size);have R2:Hid (RdT w2 v1 sl):=Rd.below R1.o hb2;clear hb2 x0 x1;go_wp2;go_ret2;exact⟨_,rfl,R2.o,B2.o⟩
theorem ztl(v:Value)(ws:List Ino)(ps:List Den)(s:ByteArray)(w:World)(h:RdIm w v ws ps)(hw:ws.length<=1048576)(hp:ps.length<=1048576)(hT:TS w)(hE:ED w)(hF:FD w)(hr:∀ k (h:k<ws.length),ws[k].R)(hs:∀ k (h:k<ps.length),ps[k].name.size<=maxLen) :
  zC 46 #[v,.string s] w fun e w'=>e=.returned (.tuple #[.I (lkR ws ps s).1,.I (lkR ws ps s).2])/\zB w w':=by
 have HR:=zaa h;have LS:=zaa (fun w1 (hb:zB w w1)=>yaci v ws ps s w1 (h.below hb) hw hp (hT.below hb) (hE.below hb) (hF.below hb) hr hs);have LG:=zaa (fun vL w1 h hL hi=>yaid v vL ws ps (spL s) w1 h hL hi (by have:=@yact s;omega) yakf);obtain⟨NO,YES⟩:=ybco ws ps s;have NO:=zaa NO;have YES:=zaa YES;obtain⟨vW,vP,rfl,h1,h2⟩:=h;obtain⟨aW,cW,rfl,_,_⟩:=h1.shape;obtain⟨aP,cP,rfl,_,_⟩:=h2.shape;clear h1 h2 hr hs hT hE hF
 have CA:Hid (∀ w',Below (w.alloc (.cells #[.slice aW ws.length cW,.slice aP ps.length cP] 67)).heap.size (w.alloc (.cells #[.slice aW ws.length cW,.slice aP ps.length cP] 67)) w'->w'.cell? ⟨w.heap.size,0,none⟩=some (.slice aW ws.length cW)/\w'.cell? ⟨w.heap.size,1,none⟩=some (.slice aP ps.length cP)):=fun w' hb=>by
  have:w'.heap[w.heap.size]?=some (.cells #[.slice aW ws.length cW,.slice aP ps.length cP] 67 (0,0)):=(hb.block _ (by simp)).trans (zaf rfl);exact⟨(zac this).1,(zac this).2.1⟩
 have BW:Hid (zB w (w.alloc (.cells #[.slice aW ws.length cW,.slice aP ps.length cP] 67))):=zR.alloc zL _;obtain⟨x0,x1⟩:=CA.o _ zR;generalize siC ws ps s=sc at *;generalize siL ws ps s=sl at *;generalize lkR ws ps s=res at *;generalize paR ws ps s=res2 at *
 by_cases c:sc=0
 ·obtain⟨c1,rfl,rfl,_⟩:=YES.o c;have C1:=zaa c1;subst c;clear NO YES c1;generalize wk ws ps 0 (spL s)=r1 at *;go_enter Tryz.func46,Tryz.ntmps46;go_wp2_with fail;refine(LS.o _ BW.o).mono ?_;rintro e w1 ⟨v1,rfl,hr1,hb1⟩;have B1:=zaa (zab BW.o hb1 BW.o.size);have R1:=zaa hr1;clear x0 x1;obtain⟨x0,x1⟩:=CA.o _ hb1;clear hr1 hb1;go_wp2_with fail;refine(LG.o _ _ (HR.o.below B1.o) R1.o C1.o).mono ?_;rintro e w2 ⟨rfl,hb2⟩;have B2:=zaa (zab B1.o hb2 B1.o.size);clear hb2 x0 x1;go_wp2;go_ret2;exact⟨rfl,B2.o⟩
 ·obtain⟨rfl,_⟩:=NO.o c
  have q:(sc != 0)=true:=by rw[bne_iff_ne];exact c
  clear NO YES c;go_enter Tryz.func46,Tryz.ntmps46;go_wp2_with fail;refine(LS.o _ BW.o).mono ?_;rintro e w1 ⟨v1,rfl,hr1,hb1⟩;have B1:=zaa (zab BW.o hb1 BW.o.size);clear hr1 hb1 x0 x1;go_wp2;go_ret2;exact⟨rfl,B1.o⟩
end Go.Proofs.YtdiaiejmoocpmaaGreatDoor
