import Derived.Test.YtogcbbkhnpmgeaaGreatDoorZAW
import Derived.Test.YtogcbbkhnpmgeaaGreatDoorZBH
import Derived.Maps.OwnSet
set_option maxRecDepth 100000
set_option maxHeartbeats 8000000
namespace Go.Proofs.YtogcbbkhnpmgeaaGreatDoor
open Go.RowKit
def ybbs(d:Int)(nm:ByteArray)(x:Den):Bool:=x.dir == d&&x.name.toList == nm.toList
theorem ybax{ws:List Ino}{ps:List Den}(h:zbg ws ps=true){nm:ByteArray}(hn:1<=nm.size)(d:Int)(k:Nat)(hk:k<ps.length):zci d nm ps[k]=ybbs d nm ps[k]:=by
 unfold zci ybbs
 rcases zgw h k hk with ⟨h1,h2⟩ | ⟨h1,_⟩
 ·have:(ps[k].name.toList == nm.toList)=false:=by
   rw[beq_eq_false_iff_ne];intro e;have:=congrArg List.length e;rw[Lib.toList_data,Lib.toList_data,<- Lib.size_eq,<- Lib.size_eq]at this;omega
  rw[this];simp
 ·rw[decide_eq_true (show 0<=ps[k].child by omega),Bool.true_and]
theorem zub(v vL:Value)(ws:List Ino)(ps:List Den)(ns:List ByteArray)(w:World)(h:RdIm w v ws ps)(hL:RdT w vL ns)(hi:zbg ws ps=true)(hn:ns.length<=1048576)(hs:∀ k (h:k<ns.length),1<=ns[k].size) :
  zC 124 #[v,vL] w fun e w'=>e=.returned (.tuple #[.I (wk ws ps 0 ns).1,.I (wk ws ps 0 ns).2])/\zB w w':=by
 have HR:=zaa h;have LD:=zaa (fun(i:Nat) (hi16:i<16) w1 h=>zji v ws ps (i:Int) w1 h (zas hi).1 (by omega));obtain⟨vW,vP,rfl,h1,h2⟩:=h;obtain⟨aW,cW,rfl,_,_⟩:=h1.shape;obtain⟨aP,cP,rfl,_,hcP⟩:=h2.shape;obtain⟨aL,cL,rfl,_,hcL⟩:=hL.shape;have L24:=zaa (zas hi).2.1;obtain⟨bP,oP,rfl,hblP,hcellP⟩:=hcP (by have:=L24.o;omega)
 have pl:ps.length<=4096:=by have:=L24.o;omega
 have HP:=zaa hcellP;have HN:=zaa hcL;have HS:=zaa hs;have PH:=zaa (fun(nm:ByteArray) (hn:1<=nm.size) d k hk=>ybax hi hn d k hk);have CR:=zaa (fun(d:Int) (nm:ByteArray) (k:Nat) (e:zbi ps d nm=some k)=>zef hi e);generalize hres:wk ws ps 0 ns=res;have HRES:=zaa hres;clear hres h1 h2 hcP hcellP hcL hL hi hs
 obtain⟨W,hW⟩:=zE (w.alloc (.cells #[.slice aW ws.length cW,.slice (some ⟨bP,oP,none⟩) ps.length cP] 51))
 have CA:Hid (∀ w',zB W w'->w'.cell? ⟨w.heap.size,0,none⟩=some (.slice aW ws.length cW)/\w'.cell? ⟨w.heap.size,1,none⟩=some (.slice (some ⟨bP,oP,none⟩) ps.length cP)):=fun w' hb=>by
  have:w'.heap[w.heap.size]?=some (.cells #[.slice aW ws.length cW,.slice (some ⟨bP,oP,none⟩) ps.length cP] 51 (0,0)):=(hb.block _ (by rw[hW];simp)).trans (by rw[hW];exact zaf rfl);exact⟨(zac this).1,(zac this).2.1⟩
 have BW:Hid (zB w W):=by rw[hW];exact zR.alloc zL _
 have hzW:w.heap.size<=W.heap.size:=BW.o.size;go_enter Tryz.func124,Tryz.ntmps124;go_wp2_with fail;go_step3;go_wp2_with fail;go_step3;go_wp2_with fail;rw[<- hW];clear hW
 go_loopg [6,13] ns.length (fun g a i wr=>∃ (k:Nat) (z:Nat),k+g=ns.length/\z<16/\a=.I z/\i=.I k/\Hid (zB W wr/\res=wk ws ps z (ns.drop k)))
 case atStart=>exact⟨0,0,by omega,by omega,rfl,rfl,zR,HRES.o.symm⟩
 case round =>
  obtain⟨k,z,hk,hz16,rfl,rfl,J⟩:=hrel;obtain⟨x0,x1⟩:=CA.o wr J.o.1;have B:=zaa (zab BW.o J.o.1 hzW);have J1:=zaa J.o.1
  have k0:(0:Int)<=(k:Int):=by omega
  by_cases hlt:k<ns.length
  ·have k1:(k:Int)<(ns.length:Int):=by omega
   have JD:Hid (res=wk ws ps z (ns[k]::ns.drop (k+1))):=by unfold Hid;rw[J.o.2,List.drop_eq_getElem_cons hlt]
   obtain⟨bL,oL,rfl,hblL,hcell⟩:=HN.o (by omega);have n0:=(B.o.cell (p:=⟨bL,oL+k,none⟩) hblL).trans (hcell k hlt);have WN:=zaa (fun(h:¬ zaj ws z=2)=>zkc (ps:=ps) (n:=ns[k]) (ns:=ns.drop (k+1)) h);have WO:=zaa (fun(h:zaj ws z=2) (e:zbi ps z ns[k]=none)=>zoa (ns:=ns.drop (k+1)) h e);have WS:=zaa (fun(h:zaj ws z=2) (j:Nat) (e:zbi ps z ns[k]=some j)=>zno (ns:=ns.drop (k+1)) h e);have PK:=zaa (fun j hj=>PH.o ns[k] (HS.o k hlt) (z:Int) j hj);have CR2:=zaa (fun(j:Nat) (e:zbi ps z ns[k]=some j)=>CR.o _ _ _ e);have LD2:=zaa (fun w1 h=>LD.o z hz16 w1 h);clear J hcell HRES;generalize zaj ws (z:Int)=kk at *;generalize ns[k]=nm at *
   by_cases q:kk=2
   case neg =>
    have q1:(kk == 2)=false:=by rw[beq_eq_false_iff_ne];exact q
    rw[q1]at LD2;obtain rfl:=JD.o.trans (WN.o q);clear q q1 WN WO WS CR2 PK;go_wp2_with fail;refine(LD2.o _ (HR.o.below B.o)).mono ?_;rintro e w1 ⟨rfl,hb1⟩;have B1:=zaa (zab B.o hb1 B.o.size);clear hb1 x0 x1 n0;go_wp2
    try rw[Exit.noGoto_ret]
    go_ret2;exact⟨rfl,B1.o⟩
   have q1:(kk == 2)=true:=by rw[q];rfl
   rw[q1]at LD2;clear q1;have Q:=zaa q;clear q;go_wp2_with fail;refine(LD2.o _ (HR.o.below B.o)).mono ?_;rintro e w1 ⟨rfl,hb1⟩;have B1:=zaa (zab B.o hb1 B.o.size);have J2:=zaa (zab J1.o hb1 J1.o.size);clear hb1 x0 x1 n0 LD2;obtain⟨x0,x1⟩:=CA.o w1 J2.o;generalize gk=G0 at *;have hz1:w.heap.size<=w1.heap.size:=B1.o.size;clear B J1;go_wp2_with fail
   go_loopg [6,24] ps.length (fun g2 a i wq=>∃ j:Nat,j+g2=ps.length/\a=.I z/\i=.I j/\Hid (zB w1 wq/\∀ m (h:m<ps.length),m<j->zci (z:Int) nm ps[m]=false))
   case atStart=>exact⟨0,by omega,rfl,rfl,zR,fun m h a=>absurd a (by omega)⟩
   case round =>
    obtain⟨j,hj,rfl,rfl,K⟩:=hrel;have KW:=zaa (zab B1.o K.o.1 hz1);have K2:=zaa (zab J2.o K.o.1 J2.o.size)
    have j0:(0:Int)<=(j:Int):=by omega
    by_cases hlj:j<ps.length
    ·obtain⟨a0,a1,a2⟩:=HP.o j hlj;have d0:=(KW.o.cell (p:=⟨bP,oP+j*3,none⟩) hblP).trans a0;have d1:=(KW.o.cell (p:=⟨bP,oP+j*3+1,none⟩) hblP).trans a1;have d2:=(KW.o.cell (p:=⟨bP,oP+j*3+2,none⟩) hblP).trans a2
     have j1:(j:Int)<(ps.length:Int):=by omega
     have EH:Hid (zci (z:Int) nm ps[j]=(ps[j].dir == (z:Int)&&ps[j].name.toList == nm.toList)):=PK.o j hlj;have HY:=zaa (fun e:zci (z:Int) nm ps[j]=true=>yalh hlj K.o.2 e)
     have HX:=zaa (fun(e:zci (z:Int) nm ps[j]=false) m (h:m<ps.length) (a:m<j+1)=>show zci (z:Int) nm ps[m]=false by
      by_cases q:m=j
      ·subst q;exact e
      ·exact K.o.2 m h (by omega))
     have CJ:=zaa (zbn hlj);have K1:=zaa K.o.1;clear a0 a1 a2 K;generalize zci (z:Int) nm ps[j]=hit at *;generalize ps[j].child=y at *;generalize ps[j].dir=yd at *;generalize ps[j].name=yn at *;have BX:=zaa ((Below.refl wr.heap.size wr).alloc zL (.cells #[.I yd,.string yn,.I y] 90));have B5:=zaa (zab K1.o BX.o K1.o.size);have B6:=zaa (zab K2.o BX.o K2.o.size)
     by_cases r:yd=(z:Int)
     case neg =>
      have r1:(yd == (z:Int))=false:=beq_eq_false_iff_ne.2 r;have E:=zaa (HX.o (by rw[EH.o,r1];rfl));clear r HX HY EH;go_wp2
      go_roundg (ps.length-(j+1))
      case measure=>omega
      case rel=>exact⟨j+1,by omega,rfl,by go_num,B5.o,E.o⟩
     have r1:(yd == (z:Int))=true:=beq_iff_eq.2 r
     cases t:(yn.toList == nm.toList) with
     | false =>
      have E:=zaa (HX.o (by rw[EH.o,t];simp));clear r HX HY EH;go_wp2
      go_roundg (ps.length-(j+1))
      case measure=>omega
      case rel=>exact⟨j+1,by omega,rfl,by go_num,B5.o,E.o⟩
     | true =>
      have E1:=HY.o (by rw[EH.o,t,r1];rfl);obtain⟨_,c1,c2⟩:=CR2.o j E1;have W2:=zaa (JD.o.trans (WS.o Q.o j E1));rw[CJ.o]at c1 c2 W2
      obtain⟨yn2,hy⟩:∃ n:Nat,y=(n:Int):=⟨y.toNat,by omega⟩
      subst hy
      have y16:yn2<16:=by omega
      clear r HX HY EH E1 CJ;go_wp2
      go_roundg (ns.length-(k+1))
      case measure=>omega
      case rel=>exact⟨k+1,yn2,by omega,y16,rfl,by go_num,B6.o,W2.o⟩
    ·obtain rfl:j=ps.length:=by omega
     have E:=zaa (JD.o.trans (WO.o Q.o (yawc (fun m h=>K.o.2 m h h))));obtain rfl:=E.o;clear K E;go_wp2
     try rw[Exit.noGoto_ret]
     go_ret2;exact⟨rfl,KW.o⟩
  ·obtain rfl:k=ns.length:=by omega
   have E:Hid (res=((z:Int),0)):=by unfold Hid;rw[J.o.2,List.drop_length];rfl
   clear HRES J;obtain rfl:=E.o;go_wp2
   try rw[Exit.noGoto_ret]
   go_ret2;exact⟨rfl,B.o⟩
def siC(ws:List Ino)(ps:List Den)(s:ByteArray):Int:=if 65536<s.size then 2 else if zbg ws ps=true then spC s else 1
def siL(ws:List Ino)(ps:List Den)(s:ByteArray):List ByteArray:=if zbg ws ps=true then spR s else[]
theorem zxr{s:ByteArray}:∀ k (h:k<(spL s).length),1<=(spL s)[k].size:=by
 intro k hk;have hm:(spL s)[k]∈spL s:=List.getElem_mem hk;generalize (spL s)[k]=x at hm;unfold spL at hm
 split at hm
 ·cases hm
 ·split at hm
  ·rename_i h;unfold spN at h;simp only[Bool.and_eq_true,List.all_eq_true]at h;exact(zda (h.2.2 x hm)).1
  ·cases hm
theorem ybbh(ws:List Ino)(ps:List Den)(s:ByteArray):(¬ siC ws ps s=0->lkR ws ps s=(0,siC ws ps s)/\paR ws ps s=(0,⟨#[]⟩,siC ws ps s))/\(siC ws ps s=0->zbg ws ps=true/\siL ws ps s=spL s/\lkR ws ps s=wk ws ps 0 (spL s)/\paR ws ps s=paL ws ps (spL s)):=by
 unfold siC lkR paR siL
 by_cases c1:65536<s.size
 ·rw[if_pos c1,if_pos c1,if_pos c1];exact⟨fun _=>⟨rfl,rfl⟩,fun h=>by cases h⟩
 ·rw[if_neg c1,if_neg c1,if_neg c1]
  by_cases c2:zbg ws ps=true
  ·rw[if_pos c2,if_pos c2,if_pos c2,if_pos c2];obtain⟨X1,X2⟩:=zww c1;unfold lkI paI
   cases c3:spB s with
   | false =>
    obtain⟨e1,e2⟩:=X2 c3;rw[e1,e2];exact⟨fun _=>⟨rfl,rfl⟩,fun h=>by cases h⟩
   | true =>
    obtain⟨e1,e2⟩:=X1 c3;rw[e1,e2];exact⟨fun h=>absurd rfl h,fun _=>⟨c2,rfl,rfl,rfl⟩⟩
  ·rw[if_neg c2,if_neg c2,if_neg c2,if_neg c2];exact⟨fun _=>⟨rfl,rfl⟩,fun h=>by cases h⟩
theorem zsi(v:Value)(ws:List Ino)(ps:List Den)(s:ByteArray)(w:World)(h:RdIm w v ws ps)(hw:ws.length<=1048576)(hp:ps.length<=1048576)(hT:TS w)(hE:ED w)(hF:FD w)(hr:∀ k (h:k<ws.length),ws[k].R)(hs:∀ k (h:k<ps.length),ps[k].name.size<=maxLen) :
  zC 123 #[v,.string s] w fun e w'=>∃ v',e=.returned (.tuple #[v',.I (siC ws ps s)])/\RdT w' v' (siL ws ps s)/\zB w w':=by
 have HR:=zaa h;have LI:=zaa (fun w1 (hb:zB w w1)=>zby v ws ps w1 (h.below hb) hw hp (hT.below hb) (hE.below hb) (hF.below hb) hr hs);have LS:=zaa (fun w1=>znp s w1);have EC:=zaa (show siC ws ps s=if 65536<s.size then 2 else if zbg ws ps=true then spC s else 1 from rfl);have EL:=zaa (show siL ws ps s=if zbg ws ps=true then spR s else[]from rfl);have XL:=zaa (fun h=>yamd (s:=s) h)
 have X0:Hid (¬ 65536<s.size->¬ spC s=2):=fun h=>by
  obtain⟨X1,X2⟩:=zww h
  cases c:spB s
  ·rw[(X2 c).1];decide
  ·rw[(X1 c).1];decide
 obtain⟨vW,vP,rfl,h1,h2⟩:=h;obtain⟨aW,cW,rfl,_,_⟩:=h1.shape;obtain⟨aP,cP,rfl,_,_⟩:=h2.shape;clear h1 h2 hr hs hT hE hF
 have CA:Hid (∀ w',Below (w.alloc (.cells #[.slice aW ws.length cW,.slice aP ps.length cP] 51)).heap.size (w.alloc (.cells #[.slice aW ws.length cW,.slice aP ps.length cP] 51)) w'->w'.cell? ⟨w.heap.size,0,none⟩=some (.slice aW ws.length cW)/\w'.cell? ⟨w.heap.size,1,none⟩=some (.slice aP ps.length cP)):=fun w' hb=>by
  have:w'.heap[w.heap.size]?=some (.cells #[.slice aW ws.length cW,.slice aP ps.length cP] 51 (0,0)):=(hb.block _ (by simp)).trans (zaf rfl);exact⟨(zac this).1,(zac this).2.1⟩
 have BW:Hid (zB w (w.alloc (.cells #[.slice aW ws.length cW,.slice aP ps.length cP] 51))):=zR.alloc zL _;generalize siC ws ps s=sc at *;generalize siL ws ps s=sl at *
 by_cases c1:65536<s.size
 ·obtain⟨e1,e2⟩:=XL.o c1;rw[if_pos c1]at EC
  have E2:Hid (sl=[]):=by unfold Hid;rw[EL.o,e2];split<;>rfl
  rw[e1,e2]at LS;obtain rfl:=EC.o;obtain rfl:=E2.o;clear EC EL E2 c1 e1 e2;go_enter Tryz.func123,Tryz.ntmps123;go_wp2_with fail;refine(LS.o _).mono ?_;rintro e w1 ⟨v1,rfl,hr1,hb1⟩;have B1:=zaa (zab BW.o hb1 BW.o.size);have R1:Hid (RdT w1 v1 []):=hr1.rd;clear hr1 hb1;go_wp2;go_ret2;exact⟨_,rfl,R1.o,B1.o⟩
 have q2:Hid ((spC s != 2)=true):=by unfold Hid;rw[bne_iff_ne];exact X0.o c1
 rw[if_neg c1]at EC;clear XL X0 c1;generalize spC s=cc at *;generalize spR s=rr at *;have q3:=q2.o
 cases c3:zbg ws ps with
 | false =>
  rw[c3]at EC EL LI;obtain rfl:=EC.o;obtain rfl:=EL.o;clear EC EL c3;go_enter Tryz.func123,Tryz.ntmps123;go_wp2_with fail;refine(LS.o _).mono ?_;rintro e w1 ⟨v1,rfl,hr1,hb1⟩;have B1:=zaa (zab BW.o hb1 BW.o.size);obtain⟨x0,x1⟩:=CA.o _ hb1;clear hr1 hb1;go_wp2_with fail;refine(LI.o _ B1.o).mono ?_;rintro e w2 ⟨rfl,hb2⟩;have B2:=zaa (zab B1.o hb2 B1.o.size);clear hb2 x0 x1;go_wp2;go_ret2;exact⟨_,rfl,yaqv _,B2.o⟩
 | true =>
  rw[c3]at EC EL LI;obtain rfl:sc=cc:=EC.o;obtain rfl:sl=rr:=EL.o;clear EC EL c3;go_enter Tryz.func123,Tryz.ntmps123;go_wp2_with fail;refine(LS.o _).mono ?_;rintro e w1 ⟨v1,rfl,hr1,hb1⟩;have B1:=zaa (zab BW.o hb1 BW.o.size);have R1:Hid (RdT w1 v1 sl):=hr1.rd;obtain⟨x0,x1⟩:=CA.o _ hb1;clear hr1 hb1;go_wp2_with fail;refine(LI.o _ B1.o).mono ?_;rintro e w2 ⟨rfl,hb2⟩;have B2:=zaa (zab B1.o hb2 B1.o.size);have R2:Hid (RdT w2 v1 sl):=Rd.below R1.o hb2;clear hb2 x0 x1;go_wp2;go_ret2;exact⟨_,rfl,R2.o,B2.o⟩
theorem zfc(v:Value)(ws:List Ino)(ps:List Den)(s:ByteArray)(w:World)(h:RdIm w v ws ps)(hw:ws.length<=1048576)(hp:ps.length<=1048576)(hT:TS w)(hE:ED w)(hF:FD w)(hr:∀ k (h:k<ws.length),ws[k].R)(hs:∀ k (h:k<ps.length),ps[k].name.size<=maxLen) :
  zC 68 #[v,.string s] w fun e w'=>e=.returned (.tuple #[.I (lkR ws ps s).1,.I (lkR ws ps s).2])/\zB w w':=by
 have HR:=zaa h;have LS:=zaa (fun w1 (hb:zB w w1)=>zsi v ws ps s w1 (h.below hb) hw hp (hT.below hb) (hE.below hb) (hF.below hb) hr hs);have LG:=zaa (fun vL w1 h hL hi=>zub v vL ws ps (spL s) w1 h hL hi (by have:=@zvh s;omega) zxr);obtain⟨NO,YES⟩:=ybbh ws ps s;have NO:=zaa NO;have YES:=zaa YES;obtain⟨vW,vP,rfl,h1,h2⟩:=h;obtain⟨aW,cW,rfl,_,_⟩:=h1.shape;obtain⟨aP,cP,rfl,_,_⟩:=h2.shape;clear h1 h2 hr hs hT hE hF
 have CA:Hid (∀ w',Below (w.alloc (.cells #[.slice aW ws.length cW,.slice aP ps.length cP] 51)).heap.size (w.alloc (.cells #[.slice aW ws.length cW,.slice aP ps.length cP] 51)) w'->w'.cell? ⟨w.heap.size,0,none⟩=some (.slice aW ws.length cW)/\w'.cell? ⟨w.heap.size,1,none⟩=some (.slice aP ps.length cP)):=fun w' hb=>by
  have:w'.heap[w.heap.size]?=some (.cells #[.slice aW ws.length cW,.slice aP ps.length cP] 51 (0,0)):=(hb.block _ (by simp)).trans (zaf rfl);exact⟨(zac this).1,(zac this).2.1⟩
 have BW:Hid (zB w (w.alloc (.cells #[.slice aW ws.length cW,.slice aP ps.length cP] 51))):=zR.alloc zL _;obtain⟨x0,x1⟩:=CA.o _ zR;generalize siC ws ps s=sc at *;generalize siL ws ps s=sl at *;generalize lkR ws ps s=res at *;generalize paR ws ps s=res2 at *
 by_cases c:sc=0
 ·obtain⟨c1,rfl,rfl,_⟩:=YES.o c;have C1:=zaa c1;subst c;clear NO YES c1;generalize wk ws ps 0 (spL s)=r1 at *;go_enter Tryz.func68,Tryz.ntmps68;go_wp2_with fail;refine(LS.o _ BW.o).mono ?_;rintro e w1 ⟨v1,rfl,hr1,hb1⟩;have B1:=zaa (zab BW.o hb1 BW.o.size);have R1:=zaa hr1;clear x0 x1;obtain⟨x0,x1⟩:=CA.o _ hb1;clear hr1 hb1;go_wp2_with fail;refine(LG.o _ _ (HR.o.below B1.o) R1.o C1.o).mono ?_;rintro e w2 ⟨rfl,hb2⟩;have B2:=zaa (zab B1.o hb2 B1.o.size);clear hb2 x0 x1;go_wp2;go_ret2;exact⟨rfl,B2.o⟩
 ·obtain⟨rfl,_⟩:=NO.o c
  have q:(sc != 0)=true:=by rw[bne_iff_ne];exact c
  clear NO YES c;go_enter Tryz.func68,Tryz.ntmps68;go_wp2_with fail;refine(LS.o _ BW.o).mono ?_;rintro e w1 ⟨v1,rfl,hr1,hb1⟩;have B1:=zaa (zab BW.o hb1 BW.o.size);clear hr1 hb1 x0 x1;go_wp2;go_ret2;exact⟨rfl,B1.o⟩
end Go.Proofs.YtogcbbkhnpmgeaaGreatDoor

namespace Go.Proofs.YtogcbbkhnpmgeaaGreatDoor
open Go.RowKit Go.Maps Go.MapKept Go.ChangeMaps Go.WideShapes
open Go.WideElems (Fit rd rg pl rd_val elemAt)
theorem zuz{H:Type}{P:Program}{k e t:TypeId}{R:Value->Option (DataW H×List MemPlace)}{w:World}{b n:Nat}{D:DataW H}(h:w.ownsMap P k R b n D)(ht:P.underlying t=some (.map k e))(ty:TypeId) :
  ∃ w',(Builtin.clear_ #[t] ty #[.map (some b)]).run P w=.ok (.tuple #[]) w'/\w'.ownsMap P k R b 0 (.map [])/\w.grownBy w' (some b):=by
 obtain⟨es,clock,hb,F,hs,rfl⟩:=h;refine⟨setBlock w b (.map #[] clock),?_,⟨#[],clock,heap_setBlock_same hb _,⟨by simp,stamped_empty clock,by simp⟩,Nat.le_refl _,rfl⟩,⟨rfl,rfl,rfl,by simp[setBlock],fun i _ hi=>heap_setBlock_other hb _ (fun e=>hi (by rw[e]))⟩⟩;simp[Builtin.clear_,run_underlying ht,MapKept.run_getObj_map hb,MapKept.run_setObj_map _ hb,Result.andThen,setBlock]
theorem mapU:Tryz.prog.underlying 210=some (.map 9 3):=by kernel_rfl
theorem strU:Tryz.prog.underlying 9=some .string:=by kernel_rfl
theorem intU:Tryz.prog.underlying 3=some (.int .i64):=by kernel_rfl
theorem strK:Keyed Tryz.prog 9:=string_keyed strU
theorem intZ(w:World):(zeroValue 3).run Tryz.prog w=.ok (.I 0) w:=by kernel_rfl
def Mp(w:World)(b:Nat)(D:DataW Unit):Prop:=w.ownsMap Tryz.prog 9 (plainElem Tryz.prog 3) b 4096 D
theorem Mp.lt{w:World}{b:Nat}{D:DataW Unit}(h:Mp w b D):b<w.heap.size:=World.ownsMap.lt h
theorem Mp.below{w w':World}{b:Nat}{D:DataW Unit}(h:Mp w b D)(hb:zB w w'):Mp w' b D:=by
 have hl:=h.lt;obtain⟨es,cl,q,r⟩:=h;exact⟨es,cl,(hb.block b hl).trans q,r⟩
theorem grownB{w w':World}(h:zB w w')(row:Option Nat):w.grownBy w' row:=⟨h.os,h.tape,h.output,h.size,fun i hi _=>h.block i hi⟩
theorem Mp.ne{w:World}{b:Nat}{D:DataW Unit}(h:Mp w b D){a:Addr}{v:Value}(hc:w.cell? a=some v):some a.block≠some b:=by
 obtain⟨es,cl,q,_⟩:=h;intro e;injection e with e;subst e;simp[World.cell?,q]at hc
theorem Mp.neg{w:World}{b:Nat}{D:DataW Unit}(h:Mp w b D){g:Nat}{cs:Array Value}{t:TypeId}{fr}(hc:w.heap[g]?=some (.cells cs t fr)):some g≠some b:=by
 obtain⟨es,cl,q,_⟩:=h;intro e;injection e with e;subst e;rw[q]at hc
 cases hc
theorem FD.grown{w w':World}{b:Nat}{D:DataW Unit}(h:FD w)(m:Mp w b D)(hg:w.grownBy w' (some b)):FD w':=by
 have hl:=h.lt;obtain⟨t,fr,h⟩:=h;exact⟨t,fr,(hg.block _ hl (m.neg h)).trans h⟩
theorem znk(v:Value)(ws:List Ino)(ps:List Den)(d:Int)(b:Nat)(D:DataW Unit)(w:World)(h:RdIm w v ws ps)(hi:zbg ws ps=true)(hm:Mp w b D)(hF:FD w) :
  zC 188 #[.map (some b),v,.I d] w fun e w'=>e=.returned (.tuple #[])/\Mp w' b (mpD ps d ps.length)/\w.grownBy w' (some b):=by
 have HL:=zaa (zas hi).2.1;have HF:=zaa (fun j hj=>zui hi j hj);have HN:=zaa (fun j hj=>zgw hi j hj);obtain⟨vW,vP,rfl,h1,h2⟩:=h;obtain⟨aW,cW,rfl,_⟩:=h1.shape;obtain⟨aP,cP,rfl,_,hcP⟩:=h2.shape;have HZ:=zaa hcP;clear h1 h2 hcP hi
 obtain⟨W,hW⟩:=zE (w.alloc (.cells #[.slice aW ws.length cW,.slice aP ps.length cP] 51))
 have BW:Hid (zB w W):=by rw[hW];exact zR.alloc zL _
 have M:Hid (Mp W b D):=hm.below BW.o;have hbl:b<w.heap.size:=hm.lt;have BL:=zaa hbl
 have CA:Hid (W.cell? ⟨w.heap.size,1,none⟩=some (.slice aP ps.length cP)):=by
  have:W.heap[w.heap.size]?=some (.cells #[.slice aW ws.length cW,.slice aP ps.length cP] 51 (0,0)):=by rw[hW];exact zaf rfl
  exact(zac this).2.1
 have F:=zaa (hF.below BW.o);have MW:=zaa hm;clear hF hm hbl;go_enter Tryz.func188,Tryz.ntmps188;go_wp2_with fail;rw[<- hW];clear hW;obtain⟨w1,hrun,hown1,hg1⟩:=zuz M.o mapU 0;rw[hrun];clear hrun;have x1:=hg1.cell CA.o (M.o.ne CA.o);have F1:=zaa (F.o.grown M.o hg1);have G1:=zaa ((grownB BW.o (some b)).trans hg1);have hz1:w.heap.size<=w1.heap.size:=G1.o.size;have O1:=zaa hown1;clear hown1 hg1 CA M F;go_wp2
 go_loopg [6,7,12] ps.length (fun g _ _ i wr=>∃ k:Nat,k+g=ps.length/\i=.I k/\Hid (wr.ownsMap Tryz.prog 9 (plainElem Tryz.prog 3) b k (mpD ps d k))/\Hid (w.grownBy wr (some b))/\Hid (FD wr))
 case atStart=>exact⟨0,by omega,rfl,O1,G1,F1⟩
 case round =>
  obtain⟨k,hk,rfl,O,G,F⟩:=hrel
  have k0:(0:Int)<=(k:Int):=by omega
  by_cases hlt:k<ps.length
  ·obtain⟨bP,o,rfl,hbl,hcell⟩:=HZ.o (by omega);obtain⟨a0,a1,a2⟩:=hcell k hlt;have d0:=G.o.cell a0 (MW.o.ne a0);have d1:=G.o.cell a1 (MW.o.ne a1);have d2:=G.o.cell a2 (MW.o.ne a2)
   have k1:(k:Int)<(ps.length:Int):=by omega
   have DF:=zmd ps[k];have FC:=HF.o k hlt;have PE:=HN.o k hlt
   have STEP:=zaa (show mpD ps d (k+1)=if decide (0<=ps[k].child)&&ps[k].dir == d then(mpD ps d k).put (ztr ps[k].name) (.lit (.int .i64 (k:Int)))else mpD ps d k by
    rw[<- zbn hlt,<- zje hlt];rfl)
   have k4096:k<4096:=by have:=HL.o;omega
   have hg24:gk-1<gk:=by omega
   have hk':(k+1)+(gk-1)=ps.length:=by omega
   clear a0 a1 a2 hcell;generalize ps[k]=x at *;have BA:Hid (zB wr (wr.alloc (.cells #[.I x.dir,.string x.name,.I x.child] 90))):=zR.alloc zL _;have OB:Hid ((wr.alloc (.cells #[.I x.dir,.string x.name,.I x.child] 90)).ownsMap Tryz.prog 9 (plainElem Tryz.prog 3) b k (mpD ps d k)):=O.o.alloc _;have FB:=zaa (F.o.below BA.o);have GB:=zaa (G.o.trans (grownB BA.o (some b)));obtain⟨f0,f1,f2⟩:=FD.cells FB.o;clear O F G
   cases hf:x.freeB with
   | true =>
    have O2:Hid ((wr.alloc (.cells #[.I x.dir,.string x.name,.I x.child] 90)).ownsMap Tryz.prog 9 (plainElem Tryz.prog 3) b (k+1) (mpD ps d (k+1))):=by
     unfold Hid;rw[STEP.o,if_neg (by rw[hf]at FC;rw[<- FC];simp)];exact OB.o.mono (by omega)
    rw[hf]at DF;clear FC PE STEP OB BA hf;go_wp2
    go_roundg (gk-1)
    case measure=>exact hg24
    case rel=>exact⟨k+1,hk',by go_num,O2,GB,FB⟩
   | false =>
    have fc:0<=x.child:=by
     rw[hf]at FC;have:=FC.symm;simpa using this
    have hn:x.name.size<=maxLen:=by
     rcases PE with q | q
     ·omega
     ·have:=(zda q.2.2.1).2.1;unfold maxLen;omega
    rw[hf]at DF;rw[decide_eq_true fc,Bool.true_and]at STEP;clear FC PE hf
    cases q:(x.dir == d) with
    | false =>
     have O2:Hid ((wr.alloc (.cells #[.I x.dir,.string x.name,.I x.child] 90)).ownsMap Tryz.prog 9 (plainElem Tryz.prog 3) b (k+1) (mpD ps d (k+1))):=by
      unfold Hid;rw[STEP.o,if_neg (by rw[q];decide)];exact OB.o.mono (by omega)
     clear STEP OB BA;go_wp2
     go_roundg (gk-1)
     case measure=>exact hg24
     case rel=>exact⟨k+1,hk',by go_num,O2,GB,FB⟩
    | true =>
     rw[q,if_pos rfl]at STEP;have key:Hid (keyOf Tryz.prog 9 (.string x.name)=some (ztr x.name)):=WideMaps.keyOf_string_mk strU hn;clear BA hn fc;go_wp2_with (at_mapUpdate;refine wpList_mapUpdate_own _ rfl _ _ _ 210 rfl 9 3 strK mapU _ b k _ rfl OB.o (by unfold maxLen;omega) _ _ _ rfl rfl key.o _ [] (plainElem_int intU (WalkArith.wf_i64 (by omega))) ?_);intro wN hownN hgrN;rw[<- STEP.o]at hownN;have O2:=zaa hownN;have F2:=zaa (FB.o.grown (OB.o.mono (by omega)) hgrN);have G2:=zaa (GB.o.trans hgrN);clear hownN hgrN OB FB GB STEP;go_wp2
     go_roundg (gk-1)
     case measure=>exact hg24
     case rel=>exact⟨k+1,hk',by go_num,O2,G2,F2⟩
  ·obtain rfl:k=ps.length:=by omega
   go_wp2;refine bodyPost_end (v:=.tuple #[]) (by simp[results,Tryz.results188,go_sem]) rfl ?_;exact⟨rfl,O.o.mono (by have:=HL.o;omega),G.o⟩
end Go.Proofs.YtogcbbkhnpmgeaaGreatDoor

namespace Go.Proofs.YtogcbbkhnpmgeaaGreatDoor
open Go.RowKit
theorem zkn(v:Value)(ws:List Ino)(ps:List Den)(s:ByteArray)(w:World)(h:RdIm w v ws ps)(hw:ws.length<=1048576)(hp:ps.length<=1048576)(hT:TS w)(hE:ED w)(hF:FD w)(hr:∀ k (h:k<ws.length),ws[k].R)(hs:∀ k (h:k<ps.length),ps[k].name.size<=maxLen) :
  zC 231 #[v,.string s] w fun e w'=>e=.returned (.tuple #[.I (paR ws ps s).1,.string (paR ws ps s).2.1,.I (paR ws ps s).2.2])/\zB w w':=by
 have HR:=zaa h;have LS:=zaa (fun w1 (hb:zB w w1)=>zsi v ws ps s w1 (h.below hb) hw hp (hT.below hb) (hE.below hb) (hF.below hb) hr hs);have LG:=zaa (fun vL ns w1 h hL hi hn hs=>zub v vL ws ps ns w1 h hL hi hn hs);have LD:=zaa (fun(i:Nat) w1 h (hl:ws.length=16) (hi16:i<16)=>zji v ws ps (i:Int) w1 h hl (by omega));have SS:=zaa (@zxr s);have SL:=zaa (@zvh s);obtain⟨NO,YES⟩:=ybbh ws ps s;have NO:=zaa NO;have YES:=zaa YES;obtain⟨vW,vP,rfl,h1,h2⟩:=h;obtain⟨aW,cW,rfl,_,_⟩:=h1.shape;obtain⟨aP,cP,rfl,_,_⟩:=h2.shape;clear h1 h2 hr hs hT hE hF
 have CA:Hid (∀ w',Below (w.alloc (.cells #[.slice aW ws.length cW,.slice aP ps.length cP] 51)).heap.size (w.alloc (.cells #[.slice aW ws.length cW,.slice aP ps.length cP] 51)) w'->w'.cell? ⟨w.heap.size,0,none⟩=some (.slice aW ws.length cW)/\w'.cell? ⟨w.heap.size,1,none⟩=some (.slice aP ps.length cP)):=fun w' hb=>by
  have:w'.heap[w.heap.size]?=some (.cells #[.slice aW ws.length cW,.slice aP ps.length cP] 51 (0,0)):=(hb.block _ (by simp)).trans (zaf rfl);exact⟨(zac this).1,(zac this).2.1⟩
 have BW:Hid (zB w (w.alloc (.cells #[.slice aW ws.length cW,.slice aP ps.length cP] 51))):=zR.alloc zL _;obtain⟨x0,x1⟩:=CA.o _ zR;generalize siC ws ps s=sc at *;generalize siL ws ps s=sl at *;generalize lkR ws ps s=res2 at *;generalize paR ws ps s=res at *
 by_cases c:sc=0
 case neg =>
  obtain⟨_,rfl⟩:=NO.o c
  have q:(sc != 0)=true:=by rw[bne_iff_ne];exact c
  clear NO YES c;go_enter Tryz.func231,Tryz.ntmps231;go_wp2_with fail;refine(LS.o _ BW.o).mono ?_;rintro e w1 ⟨v1,rfl,hr1,hb1⟩;have B1:=zaa (zab BW.o hb1 BW.o.size);clear hr1 hb1 x0 x1;go_wp2;go_ret3;exact⟨rfl,B1.o⟩
 obtain⟨c1,rfl,_,hres⟩:=YES.o c;have C1:=zaa c1;have EL2:=zaa hres;have WR:=zaa (fun ns=>zme c1 ns 0 (by omega));have L16:=zaa (zas c1).1;subst c;clear NO YES c1 hres;generalize spL s=ns at *
 by_cases c2:ns=[]
 ·subst c2;obtain rfl:=EL2.o;clear EL2 LG;go_enter Tryz.func231,Tryz.ntmps231;go_wp2_with fail;refine(LS.o _ BW.o).mono ?_;rintro e w1 ⟨v1,rfl,hr1,hb1⟩;have B1:=zaa (zab BW.o hb1 BW.o.size);obtain⟨aL,cL,rfl,_,_⟩:=hr1.shape;clear hr1 hb1 x0 x1;simp only[List.length_nil];go_wp2;go_ret3;exact⟨rfl,B1.o⟩
 obtain⟨xs,x,rfl⟩:=yadl c2;rw[zxa]at EL2;clear c2;have EP:=zaa (show paN ws ps xs x=if (wk ws ps 0 xs).2=0 then(if zaj ws (wk ws ps 0 xs).1=2 then((wk ws ps 0 xs).1,x,0) else(0,⟨#[]⟩,10)) else(0,⟨#[]⟩,(wk ws ps 0 xs).2)from rfl);rw[EP.o]at EL2;clear EP;have sl:=SL.o;rw[List.length_append,List.length_cons,List.length_nil,Nat.zero_add]at sl
 have S1:Hid (∀ k (h:k<xs.length),1<=xs[k].size):=fun k hk=>by
  have:=SS.o k (by rw[List.length_append];omega);rw[List.getElem_append_left hk]at this;exact this
 have wr1:=WR.o xs;have LW2:=zaa (fun vL w1 h hL=>LG.o vL xs w1 h hL C1.o (by omega) S1.o)
 obtain⟨z,hz⟩:∃ z:Nat,(wk ws ps 0 xs).1=(z:Int):=⟨((wk ws ps 0 xs).1).toNat,by omega⟩
 have z16:z<16:=by omega
 rw[hz]at EL2 LW2;clear LG WR SL SS S1 wr1 hz;have LD2:=zaa (fun w1 h=>LD.o z w1 h L16.o z16);clear LD;generalize (wk ws ps 0 xs).2=wc at *;go_enter Tryz.func231,Tryz.ntmps231;go_wp2_with fail;refine(LS.o _ BW.o).mono ?_;rintro e w1 ⟨v1,rfl,hr1,hb1⟩;have B1:=zaa (zab BW.o hb1 BW.o.size);have BA:=zaa hb1;have hbn:(w.alloc (.cells #[.slice aW ws.length cW,.slice aP ps.length cP] 51)).heap.size<=w1.heap.size:=hb1.size;clear x0 x1;obtain⟨x0,x1⟩:=CA.o _ hb1;have R1:=zaa hr1;obtain⟨aL,cL,rfl,hcap,hcL⟩:=hr1.shape;obtain⟨b,o,rfl,hbl,hcell⟩:=hcL (by rw[List.length_append];simp)
 have hx:w1.cell? ⟨b,o+xs.length,none⟩=some (.string x):=by
  have:=hcell xs.length (by rw[List.length_append];simp);simpa using this
 have RT:Hid (RdT w1 (.slice (some ⟨b,o,none⟩) xs.length cL) xs):=by
  have:=zpn R1.o (m:=xs.length) (by rw[List.length_append];omega);rw[List.take_left]at this;exact this
 rw[List.length_append,List.length_cons,List.length_nil,Nat.zero_add]at hcap;simp only[List.length_append,List.length_cons,List.length_nil,Nat.zero_add];clear hr1 hb1 hcL hcell R1 LS;generalize xs.length=n at *
 have n0:(((n+1:Nat):Int) == 0)=false:=by rw[beq_eq_false_iff_ne];omega
 have nw:IntKind.i64.wrap (((n+1:Nat):Int)-1)=(n:Int):=by
  rw[show(((n+1:Nat):Int)-1)=(n:Int) by omega,IntKind.wrap_i64];omega
 have ncap:(n:Int)<=(cL:Int):=by omega
 have nw2:IntKind.i64.wrap ((n:Int)+1-1)=(n:Int):=by rw[IntKind.wrap_i64];omega
 have nw3:IntKind.i64.wrap (n:Int)=(n:Int):=by rw[IntKind.wrap_i64];omega
 have nn0:(0:Int)<=(n:Int):=by omega
 have nn1:(n:Int)<((n+1:Nat):Int):=by omega
 have nn2:(n:Int)<(n:Int)+1:=by omega
 have SK:Hid (∀ w',zB w1 w'->w'.cell? ⟨w.heap.size,0,none⟩=some (.slice aW ws.length cW)/\w'.cell? ⟨w.heap.size,1,none⟩=some (.slice aP ps.length cP)):=fun w' hb=>CA.o w' (zab BA.o hb hbn)
 have HX:Hid (∀ w',zB w1 w'->w'.cell? ⟨b,o+n,none⟩=some (.string x)):=fun w' hb=>(hb.cell (p:=⟨b,o+n,none⟩) hbl).trans hx
 have LW3:=zaa (fun w2 (hb:zB w1 w2)=>LW2.o _ w2 (HR.o.below (zab B1.o hb B1.o.size)) (Rd.below RT.o hb));clear LW2 RT hx
 by_cases q:wc=0
 case neg =>
  rw[if_neg q]at EL2;obtain rfl:=EL2.o
  have q1:(wc != 0)=true:=by rw[bne_iff_ne];exact q
  clear EL2 q;go_wp2_with fail
  go_region_held3 (fun w'=>w'.cell? ⟨w.heap.size,0,none⟩=some (.slice aW ws.length cW)/\w'.cell? ⟨w.heap.size,1,none⟩=some (.slice aP ps.length cP))
   (exact SK.o _ (by repeat (first | exact BF.o | exact zR | refine Below.drew ?_)))
   (first
    | (go_at_call 124;refine(LW3.o _ (by repeat (first | exact zR | refine Below.drew ?_))).mono ?_;rintro e w2 ⟨rfl,hb2⟩;have BF:Hid (zB w1 w2):=(by first | exact hb2 | exact zab (by repeat (first | exact zR | refine Below.drew ?_)) hb2 zL);clear hb2))
  all_goals
   have B3:=zaa (zab B1.o BF.o B1.o.size);clear SK x0 x1;go_wp2;go_ret3;exact⟨rfl,(by repeat (first | exact B3.o | refine Below.drew ?_))⟩
 rw[if_pos q]at EL2;subst q
 by_cases r:zaj ws z=2
 case neg =>
  rw[if_neg r]at EL2;obtain rfl:=EL2.o
  have r1:(zaj ws z == 2)=false:=by rw[beq_eq_false_iff_ne];exact r
  rw[r1]at LD2;clear EL2 r r1;go_wp2_with fail
  go_region_held3 (fun w'=>w'.cell? ⟨w.heap.size,0,none⟩=some (.slice aW ws.length cW)/\w'.cell? ⟨w.heap.size,1,none⟩=some (.slice aP ps.length cP))
   (exact SK.o _ (by repeat (first | exact BF.o | exact zR | refine Below.drew ?_)))
   (first
    | (go_at_call 124;refine(LW3.o _ (by repeat (first | exact zR | refine Below.drew ?_))).mono ?_;rintro e w2 ⟨rfl,hb2⟩;have BF:Hid (zB w1 w2):=(by first | exact hb2 | exact zab (by repeat (first | exact zR | refine Below.drew ?_)) hb2 zL);clear hb2))
  all_goals
   have B3:=zaa (zab B1.o BF.o B1.o.size);clear x0 x1;obtain⟨x0,x1⟩:=SK.o _ BF.o;clear SK;go_wp2_with fail;refine(LD2.o _ (HR.o.below (by repeat (first | exact B3.o | refine Below.drew ?_)))).mono ?_;rintro e w3 ⟨rfl,hb3⟩;have B4:Hid (zB w w3):=zab (by repeat (first | exact B3.o | refine Below.drew ?_)) hb3 (by have:=B3.o.size;simp<;>omega);clear hb3 x0 x1;go_wp2;go_ret3;exact⟨rfl,B4.o⟩
 rw[if_pos r]at EL2;obtain rfl:=EL2.o
 have r1:(zaj ws z == 2)=true:=by rw[r];rfl
 rw[r1]at LD2;clear EL2 r r1;go_wp2_with fail
 go_region_held3 (fun w'=>w'.cell? ⟨w.heap.size,0,none⟩=some (.slice aW ws.length cW)/\w'.cell? ⟨w.heap.size,1,none⟩=some (.slice aP ps.length cP))
  (exact SK.o _ (by repeat (first | exact BF.o | exact zR | refine Below.drew ?_)))
  (first
   | (go_at_call 124;refine(LW3.o _ (by repeat (first | exact zR | refine Below.drew ?_))).mono ?_;rintro e w2 ⟨rfl,hb2⟩;have BF:Hid (zB w1 w2):=(by first | exact hb2 | exact zab (by repeat (first | exact zR | refine Below.drew ?_)) hb2 zL);clear hb2))
 all_goals
  have B3:=zaa (zab B1.o BF.o B1.o.size);clear x0 x1;obtain⟨x0,x1⟩:=SK.o _ BF.o;clear SK;go_wp2_with fail;refine(LD2.o _ (HR.o.below (by repeat (first | exact B3.o | refine Below.drew ?_)))).mono ?_;rintro e w3 ⟨rfl,hb3⟩;have B4:Hid (zB w w3):=zab (by repeat (first | exact B3.o | refine Below.drew ?_)) hb3 (by have:=B3.o.size;simp<;>omega);have B5:Hid (zB w1 w3):=zab (by repeat (first | exact BF.o | refine Below.drew ?_)) hb3 (by have:=BF.o.size;simp<;>omega);have hx:=HX.o _ B5.o;clear hb3 x0 x1;go_wp2_with fail
  go_region_held3 (fun w'=>w'.cell? ⟨b,o+n,none⟩=some (.string x))
   (exact HX.o _ (by repeat (first | exact B5.o | refine Below.drew ?_)))
   (fail)
  all_goals
   go_wp2;go_ret3;exact⟨rfl,(by repeat (first | exact B4.o | refine Below.drew ?_))⟩
end Go.Proofs.YtogcbbkhnpmgeaaGreatDoor
