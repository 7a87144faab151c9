import Derived.Test.YtogcbbkhnpmgeaaGreatDoorZBM
import Derived.Maps.OwnSet
set_option maxRecDepth 100000
set_option maxHeartbeats 8000000
namespace Go.Proofs.YtogcbbkhnpmgeaaGreatDoor
open Go.RowKit
def yasu(d:Int)(nm:ByteArray)(x:Den):Bool:=x.dir == d&&x.name.toList == nm.toList
theorem yatd{ws:List Ino}{ps:List Den}(h:zcr ws ps=true){nm:ByteArray}(hn:1<=nm.size)(d:Int)(k:Nat)(hk:k<ps.length):zcm d nm ps[k]=yasu d nm ps[k]:=by
 unfold zcm yasu
 rcases zma h k hk with ⟨h1,h2⟩ | ⟨h1,_⟩
 ·have:(ps[k].name.toList == nm.toList)=false:=by
   rw[beq_eq_false_iff_ne];intro e;have:=congrArg List.length e;rw[Lib.toList_data,Lib.toList_data,<- Lib.size_eq,<- Lib.size_eq]at this;omega
  rw[this];simp
 ·rw[decide_eq_true (show 0<=ps[k].child by omega),Bool.true_and]
theorem yabp(v vL:Value)(ws:List Ino)(ps:List Den)(ns:List ByteArray)(w:World)(h:RdIm w v ws ps)(hL:RdT w vL ns)(hi:zcr ws ps=true)(hn:ns.length<=1048576)(hs:∀ k (h:k<ns.length),1<=ns[k].size) :
  zC 124 #[v,vL] w fun e w'=>e=.returned (.tuple #[.I (wk ws ps 0 ns).1,.I (wk ws ps 0 ns).2])/\zB w w':=by
 have HR:=zaa h;have LD:=zaa (fun(i:Nat) (hi16:i<16) w1 h=>zur v ws ps (i:Int) w1 h (zaw hi).1 (by omega));obtain⟨vW,vP,rfl,h1,h2⟩:=h;obtain⟨aW,cW,rfl,_,_⟩:=h1.shape;obtain⟨aP,cP,rfl,_,hcP⟩:=h2.shape;obtain⟨aL,cL,rfl,_,hcL⟩:=hL.shape;have L24:=zaa (zaw hi).2.1;obtain⟨bP,oP,rfl,hblP,hcellP⟩:=hcP (by have:=L24.o;omega)
 have pl:ps.length<=4096:=by have:=L24.o;omega
 have HP:=zaa hcellP;have HN:=zaa hcL;have HS:=zaa hs;have PH:=zaa (fun(nm:ByteArray) (hn:1<=nm.size) d k hk=>yatd hi hn d k hk);have CR:=zaa (fun(d:Int) (nm:ByteArray) (k:Nat) (e:zbs ps d nm=some k)=>zfg hi e);generalize hres:wk ws ps 0 ns=res;have HRES:=zaa hres;clear hres h1 h2 hcP hcellP hcL hL hi hs
 obtain⟨W,hW⟩:=zE (w.alloc (.cells #[.slice aW ws.length cW,.slice (some ⟨bP,oP,none⟩) ps.length cP] 51))
 have CA:Hid (∀ w',zB W w'->w'.cell? ⟨w.heap.size,0,none⟩=some (.slice aW ws.length cW)/\w'.cell? ⟨w.heap.size,1,none⟩=some (.slice (some ⟨bP,oP,none⟩) ps.length cP)):=fun w' hb=>by
  have:w'.heap[w.heap.size]?=some (.cells #[.slice aW ws.length cW,.slice (some ⟨bP,oP,none⟩) ps.length cP] 51 (0,0)):=(hb.block _ (by rw[hW];simp)).trans (by rw[hW];exact zah rfl);exact⟨(zac this).1,(zac this).2.1⟩
 have BW:Hid (zB w W):=by rw[hW];exact zR.alloc zL _
 have hzW:w.heap.size<=W.heap.size:=BW.o.size;go_enter Tryz.func124,Tryz.ntmps124;go_wp2_with fail;go_step3;go_wp2_with fail;go_step3;go_wp2_with fail;rw[<- hW];clear hW
 go_loopg [6,13] ns.length (fun g a i wr=>∃ (k:Nat) (z:Nat),k+g=ns.length/\z<16/\a=.I z/\i=.I k/\Hid (zB W wr/\res=wk ws ps z (ns.drop k)))
 case atStart=>exact⟨0,0,by omega,by omega,rfl,rfl,zR,HRES.o.symm⟩
 case round =>
  obtain⟨k,z,hk,hz16,rfl,rfl,J⟩:=hrel;obtain⟨x0,x1⟩:=CA.o wr J.o.1;have B:=zaa (zab BW.o J.o.1 hzW);have J1:=zaa J.o.1
  have k0:(0:Int)<=(k:Int):=by omega
  by_cases hlt:k<ns.length
  ·have k1:(k:Int)<(ns.length:Int):=by omega
   have JD:Hid (res=wk ws ps z (ns[k]::ns.drop (k+1))):=by unfold Hid;rw[J.o.2,List.drop_eq_getElem_cons hlt]
   obtain⟨bL,oL,rfl,hblL,hcell⟩:=HN.o (by omega);have n0:=(B.o.cell (p:=⟨bL,oL+k,none⟩) hblL).trans (hcell k hlt);have WN:=zaa (fun(h:¬ zai ws z=2)=>zgt (ps:=ps) (n:=ns[k]) (ns:=ns.drop (k+1)) h);have WO:=zaa (fun(h:zai ws z=2) (e:zbs ps z ns[k]=none)=>ziz (ns:=ns.drop (k+1)) h e);have WS:=zaa (fun(h:zai ws z=2) (j:Nat) (e:zbs ps z ns[k]=some j)=>zja (ns:=ns.drop (k+1)) h e);have PK:=zaa (fun j hj=>PH.o ns[k] (HS.o k hlt) (z:Int) j hj);have CR2:=zaa (fun(j:Nat) (e:zbs ps z ns[k]=some j)=>CR.o _ _ _ e);have LD2:=zaa (fun w1 h=>LD.o z hz16 w1 h);clear J hcell HRES;generalize zai ws (z:Int)=kk at *;generalize ns[k]=nm at *
   by_cases q:kk=2
   case neg =>
    have q1:(kk == 2)=false:=by rw[beq_eq_false_iff_ne];exact q
    rw[q1]at LD2;obtain rfl:=JD.o.trans (WN.o q);clear q q1 WN WO WS CR2 PK;go_wp2_with fail;refine(LD2.o _ (HR.o.below B.o)).mono ?_;rintro e w1 ⟨rfl,hb1⟩;have B1:=zaa (zab B.o hb1 B.o.size);clear hb1 x0 x1 n0;go_wp2
    try rw[Exit.noGoto_ret]
    go_ret2;exact⟨rfl,B1.o⟩
   have q1:(kk == 2)=true:=by rw[q];rfl
   rw[q1]at LD2;clear q1;have Q:=zaa q;clear q;go_wp2_with fail;refine(LD2.o _ (HR.o.below B.o)).mono ?_;rintro e w1 ⟨rfl,hb1⟩;have B1:=zaa (zab B.o hb1 B.o.size);have J2:=zaa (zab J1.o hb1 J1.o.size);clear hb1 x0 x1 n0 LD2;obtain⟨x0,x1⟩:=CA.o w1 J2.o;generalize gk=G0 at *;have hz1:w.heap.size<=w1.heap.size:=B1.o.size;clear B J1;go_wp2_with fail
   go_loopg [6,24] ps.length (fun g2 a i wq=>∃ j:Nat,j+g2=ps.length/\a=.I z/\i=.I j/\Hid (zB w1 wq/\∀ m (h:m<ps.length),m<j->zcm (z:Int) nm ps[m]=false))
   case atStart=>exact⟨0,by omega,rfl,rfl,zR,fun m h a=>absurd a (by omega)⟩
   case round =>
    obtain⟨j,hj,rfl,rfl,K⟩:=hrel;have KW:=zaa (zab B1.o K.o.1 hz1);have K2:=zaa (zab J2.o K.o.1 J2.o.size)
    have j0:(0:Int)<=(j:Int):=by omega
    by_cases hlj:j<ps.length
    ·obtain⟨a0,a1,a2⟩:=HP.o j hlj;have d0:=(KW.o.cell (p:=⟨bP,oP+j*3,none⟩) hblP).trans a0;have d1:=(KW.o.cell (p:=⟨bP,oP+j*3+1,none⟩) hblP).trans a1;have d2:=(KW.o.cell (p:=⟨bP,oP+j*3+2,none⟩) hblP).trans a2
     have j1:(j:Int)<(ps.length:Int):=by omega
     have EH:Hid (zcm (z:Int) nm ps[j]=(ps[j].dir == (z:Int)&&ps[j].name.toList == nm.toList)):=PK.o j hlj;have HY:=zaa (fun e:zcm (z:Int) nm ps[j]=true=>yair hlj K.o.2 e)
     have HX:=zaa (fun(e:zcm (z:Int) nm ps[j]=false) m (h:m<ps.length) (a:m<j+1)=>show zcm (z:Int) nm ps[m]=false by
      by_cases q:m=j
      ·subst q;exact e
      ·exact K.o.2 m h (by omega))
     have CJ:=zaa (zdl hlj);have K1:=zaa K.o.1;clear a0 a1 a2 K;generalize zcm (z:Int) nm ps[j]=hit at *;generalize ps[j].child=y at *;generalize ps[j].dir=yd at *;generalize ps[j].name=yn at *;have BX:=zaa ((Below.refl wr.heap.size wr).alloc zL (.cells #[.I yd,.string yn,.I y] 90));have B5:=zaa (zab K1.o BX.o K1.o.size);have B6:=zaa (zab K2.o BX.o K2.o.size)
     by_cases r:yd=(z:Int)
     case neg =>
      have r1:(yd == (z:Int))=false:=beq_eq_false_iff_ne.2 r;have E:=zaa (HX.o (by rw[EH.o,r1];rfl));clear r HX HY EH;go_wp2
      go_roundg (ps.length-(j+1))
      case measure=>omega
      case rel=>exact⟨j+1,by omega,rfl,by go_num,B5.o,E.o⟩
     have r1:(yd == (z:Int))=true:=beq_iff_eq.2 r
     cases t:(yn.toList == nm.toList) with
     | false =>
      have E:=zaa (HX.o (by rw[EH.o,t];simp));clear r HX HY EH;go_wp2
      go_roundg (ps.length-(j+1))
      case measure=>omega
      case rel=>exact⟨j+1,by omega,rfl,by go_num,B5.o,E.o⟩
     | true =>
      have E1:=HY.o (by rw[EH.o,t,r1];rfl);obtain⟨_,c1,c2⟩:=CR2.o j E1;have W2:=zaa (JD.o.trans (WS.o Q.o j E1));rw[CJ.o]at c1 c2 W2
      obtain⟨yn2,hy⟩:∃ n:Nat,y=(n:Int):=⟨y.toNat,by omega⟩
      subst hy
      have y16:yn2<16:=by omega
      clear r HX HY EH E1 CJ;go_wp2
      go_roundg (ns.length-(k+1))
      case measure=>omega
      case rel=>exact⟨k+1,yn2,by omega,y16,rfl,by go_num,B6.o,W2.o⟩
    ·obtain rfl:j=ps.length:=by omega
     have E:=zaa (JD.o.trans (WO.o Q.o (yaoz (fun m h=>K.o.2 m h h))));obtain rfl:=E.o;clear K E;go_wp2
     try rw[Exit.noGoto_ret]
     go_ret2;exact⟨rfl,KW.o⟩
  ·obtain rfl:k=ns.length:=by omega
   have E:Hid (res=((z:Int),0)):=by unfold Hid;rw[J.o.2,List.drop_length];rfl
   clear HRES J;obtain rfl:=E.o;go_wp2
   try rw[Exit.noGoto_ret]
   go_ret2;exact⟨rfl,B.o⟩
def siC(ws:List Ino)(ps:List Den)(s:ByteArray):Int:=if 65536<s.size then 2 else if zcr ws ps=true then spC s else 1
def siL(ws:List Ino)(ps:List Den)(s:ByteArray):List ByteArray:=if zcr ws ps=true then spR s else[]
theorem yahs{s:ByteArray}:∀ k (h:k<(spL s).length),1<=(spL s)[k].size:=by
 intro k hk;have hm:(spL s)[k]∈spL s:=List.getElem_mem hk;generalize (spL s)[k]=x at hm;unfold spL at hm
 split at hm
 ·cases hm
 ·split at hm
  ·rename_i h;unfold spN at h;simp only[Bool.and_eq_true,List.all_eq_true]at h;exact(zeq (h.2.2 x hm)).1
  ·cases hm
theorem yavh(ws:List Ino)(ps:List Den)(s:ByteArray):(¬ siC ws ps s=0->lkR ws ps s=(0,siC ws ps s)/\paR ws ps s=(0,⟨#[]⟩,siC ws ps s))/\(siC ws ps s=0->zcr ws ps=true/\siL ws ps s=spL s/\lkR ws ps s=wk ws ps 0 (spL s)/\paR ws ps s=paL ws ps (spL s)):=by
 unfold siC lkR paR siL
 by_cases c1:65536<s.size
 ·rw[if_pos c1,if_pos c1,if_pos c1];exact⟨fun _=>⟨rfl,rfl⟩,fun h=>by cases h⟩
 ·rw[if_neg c1,if_neg c1,if_neg c1]
  by_cases c2:zcr ws ps=true
  ·rw[if_pos c2,if_pos c2,if_pos c2,if_pos c2];obtain⟨X1,X2⟩:=zri c1;unfold lkI paI
   cases c3:spB s with
   | false =>
    obtain⟨e1,e2⟩:=X2 c3;rw[e1,e2];exact⟨fun _=>⟨rfl,rfl⟩,fun h=>by cases h⟩
   | true =>
    obtain⟨e1,e2⟩:=X1 c3;rw[e1,e2];exact⟨fun h=>absurd rfl h,fun _=>⟨c2,rfl,rfl,rfl⟩⟩
  ·rw[if_neg c2,if_neg c2,if_neg c2,if_neg c2];exact⟨fun _=>⟨rfl,rfl⟩,fun h=>by cases h⟩
theorem zyr(v:Value)(ws:List Ino)(ps:List Den)(s:ByteArray)(w:World)(h:RdIm w v ws ps)(hw:ws.length<=1048576)(hp:ps.length<=1048576)(hT:TS w)(hE:ED w)(hF:FD w)(hr:∀ k (h:k<ws.length),ws[k].R)(hs:∀ k (h:k<ps.length),ps[k].name.size<=maxLen) :
  zC 123 #[v,.string s] w fun e w'=>∃ v',e=.returned (.tuple #[v',.I (siC ws ps s)])/\RdT w' v' (siL ws ps s)/\zB w w':=by
 have HR:=zaa h;have LI:=zaa (fun w1 (hb:zB w w1)=>zhn v ws ps w1 (h.below hb) hw hp (hT.below hb) (hE.below hb) (hF.below hb) hr hs);have LS:=zaa (fun w1=>zkw s w1);have EC:=zaa (show siC ws ps s=if 65536<s.size then 2 else if zcr ws ps=true then spC s else 1 from rfl);have EL:=zaa (show siL ws ps s=if zcr ws ps=true then spR s else[]from rfl);have XL:=zaa (fun h=>yaic (s:=s) h)
 have X0:Hid (¬ 65536<s.size->¬ spC s=2):=fun h=>by
  obtain⟨X1,X2⟩:=zri h
  cases c:spB s
  ·rw[(X2 c).1];decide
  ·rw[(X1 c).1];decide
 obtain⟨vW,vP,rfl,h1,h2⟩:=h;obtain⟨aW,cW,rfl,_,_⟩:=h1.shape;obtain⟨aP,cP,rfl,_,_⟩:=h2.shape;clear h1 h2 hr hs hT hE hF
 have CA:Hid (∀ w',Below (w.alloc (.cells #[.slice aW ws.length cW,.slice aP ps.length cP] 51)).heap.size (w.alloc (.cells #[.slice aW ws.length cW,.slice aP ps.length cP] 51)) w'->w'.cell? ⟨w.heap.size,0,none⟩=some (.slice aW ws.length cW)/\w'.cell? ⟨w.heap.size,1,none⟩=some (.slice aP ps.length cP)):=fun w' hb=>by
  have:w'.heap[w.heap.size]?=some (.cells #[.slice aW ws.length cW,.slice aP ps.length cP] 51 (0,0)):=(hb.block _ (by simp)).trans (zah rfl);exact⟨(zac this).1,(zac this).2.1⟩
 have BW:Hid (zB w (w.alloc (.cells #[.slice aW ws.length cW,.slice aP ps.length cP] 51))):=zR.alloc zL _;generalize siC ws ps s=sc at *;generalize siL ws ps s=sl at *
 by_cases c1:65536<s.size
 ·obtain⟨e1,e2⟩:=XL.o c1;rw[if_pos c1]at EC
  have E2:Hid (sl=[]):=by unfold Hid;rw[EL.o,e2];split<;>rfl
  rw[e1,e2]at LS;obtain rfl:=EC.o;obtain rfl:=E2.o;clear EC EL E2 c1 e1 e2;go_enter Tryz.func123,Tryz.ntmps123;go_wp2_with fail;refine(LS.o _).mono ?_;rintro e w1 ⟨v1,rfl,hr1,hb1⟩;have B1:=zaa (zab BW.o hb1 BW.o.size);have R1:Hid (RdT w1 v1 []):=hr1.rd;clear hr1 hb1;go_wp2;go_ret2;exact⟨_,rfl,R1.o,B1.o⟩
 have q2:Hid ((spC s != 2)=true):=by unfold Hid;rw[bne_iff_ne];exact X0.o c1
 rw[if_neg c1]at EC;clear XL X0 c1;generalize spC s=cc at *;generalize spR s=rr at *;have q3:=q2.o
 cases c3:zcr ws ps with
 | false =>
  rw[c3]at EC EL LI;obtain rfl:=EC.o;obtain rfl:=EL.o;clear EC EL c3;go_enter Tryz.func123,Tryz.ntmps123;go_wp2_with fail;refine(LS.o _).mono ?_;rintro e w1 ⟨v1,rfl,hr1,hb1⟩;have B1:=zaa (zab BW.o hb1 BW.o.size);obtain⟨x0,x1⟩:=CA.o _ hb1;clear hr1 hb1;go_wp2_with fail;refine(LI.o _ B1.o).mono ?_;rintro e w2 ⟨rfl,hb2⟩;have B2:=zaa (zab B1.o hb2 B1.o.size);clear hb2 x0 x1;go_wp2;go_ret2;exact⟨_,rfl,yahy _,B2.o⟩
 | true =>
  rw[c3]at EC EL LI;obtain rfl:sc=cc:=EC.o;obtain rfl:sl=rr:=EL.o;clear EC EL c3;go_enter Tryz.func123,Tryz.ntmps123;go_wp2_with fail;refine(LS.o _).mono ?_;rintro e w1 ⟨v1,rfl,hr1,hb1⟩;have B1:=zaa (zab BW.o hb1 BW.o.size);have R1:Hid (RdT w1 v1 sl):=hr1.rd;obtain⟨x0,x1⟩:=CA.o _ hb1;clear hr1 hb1;go_wp2_with fail;refine(LI.o _ B1.o).mono ?_;rintro e w2 ⟨rfl,hb2⟩;have B2:=zaa (zab B1.o hb2 B1.o.size);have R2:Hid (RdT w2 v1 sl):=Rd.below R1.o hb2;clear hb2 x0 x1;go_wp2;go_ret2;exact⟨_,rfl,R2.o,B2.o⟩
theorem zpr(v:Value)(ws:List Ino)(ps:List Den)(s:ByteArray)(w:World)(h:RdIm w v ws ps)(hw:ws.length<=1048576)(hp:ps.length<=1048576)(hT:TS w)(hE:ED w)(hF:FD w)(hr:∀ k (h:k<ws.length),ws[k].R)(hs:∀ k (h:k<ps.length),ps[k].name.size<=maxLen) :
  zC 68 #[v,.string s] w fun e w'=>e=.returned (.tuple #[.I (lkR ws ps s).1,.I (lkR ws ps s).2])/\zB w w':=by
 have HR:=zaa h;have LS:=zaa (fun w1 (hb:zB w w1)=>zyr v ws ps s w1 (h.below hb) hw hp (hT.below hb) (hE.below hb) (hF.below hb) hr hs);have LG:=zaa (fun vL w1 h hL hi=>yabp v vL ws ps (spL s) w1 h hL hi (by have:=@zza s;omega) yahs);obtain⟨NO,YES⟩:=yavh ws ps s;have NO:=zaa NO;have YES:=zaa YES;obtain⟨vW,vP,rfl,h1,h2⟩:=h;obtain⟨aW,cW,rfl,_,_⟩:=h1.shape;obtain⟨aP,cP,rfl,_,_⟩:=h2.shape;clear h1 h2 hr hs hT hE hF
 have CA:Hid (∀ w',Below (w.alloc (.cells #[.slice aW ws.length cW,.slice aP ps.length cP] 51)).heap.size (w.alloc (.cells #[.slice aW ws.length cW,.slice aP ps.length cP] 51)) w'->w'.cell? ⟨w.heap.size,0,none⟩=some (.slice aW ws.length cW)/\w'.cell? ⟨w.heap.size,1,none⟩=some (.slice aP ps.length cP)):=fun w' hb=>by
  have:w'.heap[w.heap.size]?=some (.cells #[.slice aW ws.length cW,.slice aP ps.length cP] 51 (0,0)):=(hb.block _ (by simp)).trans (zah rfl);exact⟨(zac this).1,(zac this).2.1⟩
 have BW:Hid (zB w (w.alloc (.cells #[.slice aW ws.length cW,.slice aP ps.length cP] 51))):=zR.alloc zL _;obtain⟨x0,x1⟩:=CA.o _ zR;generalize siC ws ps s=sc at *;generalize siL ws ps s=sl at *;generalize lkR ws ps s=res at *;generalize paR ws ps s=res2 at *
 by_cases c:sc=0
 ·obtain⟨c1,rfl,rfl,_⟩:=YES.o c;have C1:=zaa c1;subst c;clear NO YES c1;generalize wk ws ps 0 (spL s)=r1 at *;go_enter Tryz.func68,Tryz.ntmps68;go_wp2_with fail;refine(LS.o _ BW.o).mono ?_;rintro e w1 ⟨v1,rfl,hr1,hb1⟩;have B1:=zaa (zab BW.o hb1 BW.o.size);have R1:=zaa hr1;clear x0 x1;obtain⟨x0,x1⟩:=CA.o _ hb1;clear hr1 hb1;go_wp2_with fail;refine(LG.o _ _ (HR.o.below B1.o) R1.o C1.o).mono ?_;rintro e w2 ⟨rfl,hb2⟩;have B2:=zaa (zab B1.o hb2 B1.o.size);clear hb2 x0 x1;go_wp2;go_ret2;exact⟨rfl,B2.o⟩
 ·obtain⟨rfl,_⟩:=NO.o c
  have q:(sc != 0)=true:=by rw[bne_iff_ne];exact c
  clear NO YES c;go_enter Tryz.func68,Tryz.ntmps68;go_wp2_with fail;refine(LS.o _ BW.o).mono ?_;rintro e w1 ⟨v1,rfl,hr1,hb1⟩;have B1:=zaa (zab BW.o hb1 BW.o.size);clear hr1 hb1 x0 x1;go_wp2;go_ret2;exact⟨rfl,B1.o⟩
def flR(ns:List Ino)(ds:List Den)(s:ByteArray):Int×Int:=if 65536<s.size then(0,2)else if zcr ns ds=true then flI ns ds s else(0,1)
def faI(ns:List Ino)(r:Int×Int):Ino:=if r.2=0 then zam ns r.1.toNat else zgg
theorem yaax{ns:List Ino}{ds:List Den}{s:ByteArray}(h:(flR ns ds s).2=0):zcr ns ds=true/\¬ 65536<s.size/\flR ns ds s=flI ns ds s:=by
 unfold flR at h ⊢
 by_cases c:65536<s.size
 ·rw[if_pos c]at h;simp at h
 ·rw[if_neg c]at h ⊢
  by_cases d:zcr ns ds=true
  ·rw[if_pos d];exact⟨d,c,rfl⟩
  ·rw[if_neg d]at h;simp at h
theorem yard(ns:List Ino)(ds:List Den)(s:ByteArray):(¬ (lkR ns ds s).2=0/\flR ns ds s=(0,(lkR ns ds s).2))\/((lkR ns ds s).2=0/\zcr ns ds=true/\∃ i:Nat,i<16/\(lkR ns ds s).1=(i:Int)/\((zai ns (i:Int)=2/\flR ns ds s=(0,9))\/(¬ zai ns (i:Int)=2/\flR ns ds s=((i:Int),0)))):=by
 unfold lkR flR
 by_cases c:65536<s.size
 ·rw[if_pos c,if_pos c];exact .inl ⟨by simp,rfl⟩
 ·rw[if_neg c,if_neg c]
  by_cases d:zcr ns ds=true
  ·rw[if_pos d,if_pos d];unfold flI
   by_cases e:(lkI ns ds s).2=0
   ·rw[if_pos e];refine .inr ⟨e,d,?_⟩
    by_cases f:zai ns (lkI ns ds s).1=2
    ·have k:=zul (s:=s) d;rw[if_neg (by rw[f];omega)];exact⟨(lkI ns ds s).1.toNat,by omega,by omega,.inl ⟨by rw[show(((lkI ns ds s).1.toNat:Nat):Int)=(lkI ns ds s).1 by omega];exact f,rfl⟩⟩
    ·obtain⟨i,ei,hi,-,k⟩:=zjy (zbi.1 d) e f
     have k1:zai ns (lkI ns ds s).1=1:=by
      rw[ei,zbk (show i<ns.length by have:=(zaw d).1;omega),<- zbj];exact k
     rw[if_pos k1];exact⟨i,hi,ei,.inr ⟨by rw[<- ei];exact f,by rw[ei]⟩⟩
   ·rw[if_neg e];exact .inl ⟨e,rfl⟩
  ·rw[if_neg d,if_neg d];exact .inl ⟨by simp,rfl⟩
theorem zln(v:Value)(ns:List Ino)(ds:List Den)(s:ByteArray)(w:World)(h:RdIm w v ns ds)(hw:ns.length<=1048576)(hp:ds.length<=1048576)(hT:TS w)(hE:ED w)(hF:FD w)(hr:∀ k (h:k<ns.length),ns[k].R)(hs:∀ k (h:k<ds.length),ds[k].name.size<=maxLen) :
  ∀ x,x=faI ns (flR ns ds s)->zC 37 #[v,.string s] w fun e w'=>e=.returned (.tuple #[.agg #[.I x.kind,.I x.size,.I x.links,.I x.m0,.I x.m1,.I x.m2,.I x.m3,.I x.m4,.I x.m5,.I x.m6,.I x.m7,.I (flR ns ds s).1],.I (flR ns ds s).2])/\zB w w':=by
 intro x hx;have HX:=zaa hx;have LL:=zaa (fun w1 (hb:zB w w1)=>zpr v ns ds s w1 (h.below hb) hw hp (hT.below hb) (hE.below hb) (hF.below hb) hr hs);have LD:=zaa (fun(hi:zcr ns ds=true) (i:Nat) (h16:i<16) w1 (hb:zB w w1)=>zur v ns ds (i:Int) w1 (h.below hb) (zaw hi).1 (by omega));have WAYS:=zaa (yard ns ds s);have L16:=zaa (fun hi=>(zaw (ws:=ns) (ps:=ds) hi).1);obtain⟨vW,vP,rfl,h1,h2⟩:=h;obtain⟨aW,cW,rfl,_,hcW⟩:=h1.shape;obtain⟨aP,cP,rfl,_,hcP⟩:=h2.shape;have HW:=zaa hcW;clear h1 h2 hr hs hT hE hF hcW hcP hx hw hp
 obtain⟨W,hW⟩:=zE ((w.alloc (.cells #[.slice aW ns.length cW,.slice aP ds.length cP] 51)).alloc (.cells #[.I 0,.I 0,.I 0,.I 0,.I 0,.I 0,.I 0,.I 0,.I 0,.I 0,.I 0,.I 0] 95))
 have hzW:W.heap.size=w.heap.size+1+1:=by rw[hW];simp
 have CA:Hid (∀ w',zB W w'->w'.cell? ⟨w.heap.size,0,none⟩=some (.slice aW ns.length cW)/\w'.cell? ⟨w.heap.size,1,none⟩=some (.slice aP ds.length cP)):=fun w' hb=>by
  have:w'.heap[w.heap.size]?=some (.cells #[.slice aW ns.length cW,.slice aP ds.length cP] 51 (0,0)):=(hb.block _ (by omega)).trans (by rw[hW];exact zal (zah rfl));exact⟨(zac this).1,(zac this).2.1⟩
 have CR:Hid (∀ w',zB W w'->w'.heap[w.heap.size+1]?=some (.cells ([.I 0,.I 0,.I 0,.I 0,.I 0,.I 0,.I 0,.I 0,.I 0,.I 0,.I 0,.I 0]:List Value).toArray 95 (0,0))):=fun w' hb=>(hb.block _ (by omega)).trans (by
  rw[hW];have:=zah (w:=w.alloc (.cells #[.slice aW ns.length cW,.slice aP ds.length cP] 51)) (o:=.cells #[.I 0,.I 0,.I 0,.I 0,.I 0,.I 0,.I 0,.I 0,.I 0,.I 0,.I 0,.I 0] 95) rfl;rw[World.size_alloc]at this
  exact this)
 have BW:Hid (zB w W):=by rw[hW];exact(zR.alloc zL _).alloc (by simp) _
 have hz0:w.heap.size+1<W.heap.size:=by omega
 clear hzW;obtain⟨x0,x1⟩:=CA.o _ zR;generalize flR ns ds s=res at *;generalize lkR ns ds s=lr at *;obtain⟨li,lc⟩:=lr;simp only at WAYS LL;go_enter Tryz.func37,Tryz.ntmps37;go_wp2_with fail;rw[<- hW];clear hW x0 x1;refine(LL.o _ BW.o).mono ?_;rintro e w1 ⟨rfl,hb1⟩;have A1:=zaa hb1;have B1:=zaa (zab BW.o A1.o BW.o.size);have hz1:w.heap.size+1<w1.heap.size:=Nat.lt_of_lt_of_le hz0 A1.o.size;clear hb1 LL
 rcases WAYS.o with ⟨c,rfl⟩ | ⟨rfl,hi,i,i16,rfl,c⟩
 ·have q:(lc != 0)=true:=by rw[bne_iff_ne];exact c
  obtain rfl:x=zgg:=HX.o.trans (if_neg c);have E:=zaa (zak (CR.o _ A1.o));have p0:=(E.o 0).1;have f0:=(E.o 0).2;have p1:=(E.o 1).1;have f1:=(E.o 1).2;have p2:=(E.o 2).1;have f2:=(E.o 2).2;have p3:=(E.o 3).1;have f3:=(E.o 3).2;have p4:=(E.o 4).1;have f4:=(E.o 4).2;have p5:=(E.o 5).1;have f5:=(E.o 5).2;have p6:=(E.o 6).1;have f6:=(E.o 6).2;have p7:=(E.o 7).1;have f7:=(E.o 7).2;have p8:=(E.o 8).1;have f8:=(E.o 8).2;have p9:=(E.o 9).1;have f9:=(E.o 9).2;have p10:=(E.o 10).1;have f10:=(E.o 10).2;have p11:=(E.o 11).1;have f11:=(E.o 11).2;simp only[List.getElem?_cons_zero,List.getElem?_cons_succ]at p0 p1 p2 p3 p4 p5 p6 p7 p8 p9 p10 p11;clear CR CA WAYS LD HW L16 c;go_wp2;refine bodyPost_ret (v:=.tuple #[.agg #[.I 0,.I 0,.I 0,.I 0,.I 0,.I 0,.I 0,.I 0,.I 0,.I 0,.I 0,.I 0],.I lc]) (by simp[results,Tryz.results37,go_sem,p0,p1,p2,p3,p4,p5,p6,p7,p8,p9,p10,p11]) rfl ⟨rfl,?_⟩
  repeat (first | with_reducible exact B1.o | refine Below.setCell ?_ (by simp only;omega) _)
 ·have LD2:=zaa (LD.o hi i i16)
  have i1:i<ns.length:=by have:=L16.o hi;omega
  have i0:(0:Int)<=(i:Int):=by omega
  have il:(i:Int)<(ns.length:Int):=by omega
  obtain⟨bW,oW,rfl,hblW,hcellW⟩:=HW.o (by omega)
  have HC:Hid (∀ k (h:k<ns.length) (x:Ino),x=ns[k]->∀ w',zB w w'->w'.cell? ⟨bW,oW+k*11,none⟩=some (.I x.kind)/\w'.cell? ⟨bW,oW+k*11+1,none⟩=some (.I x.size)/\w'.cell? ⟨bW,oW+k*11+2,none⟩=some (.I x.links)/\w'.cell? ⟨bW,oW+k*11+3,none⟩=some (.I x.m0)/\w'.cell? ⟨bW,oW+k*11+4,none⟩=some (.I x.m1)/\w'.cell? ⟨bW,oW+k*11+5,none⟩=some (.I x.m2)/\w'.cell? ⟨bW,oW+k*11+6,none⟩=some (.I x.m3)/\w'.cell? ⟨bW,oW+k*11+7,none⟩=some (.I x.m4)/\w'.cell? ⟨bW,oW+k*11+8,none⟩=some (.I x.m5)/\w'.cell? ⟨bW,oW+k*11+9,none⟩=some (.I x.m6)/\w'.cell? ⟨bW,oW+k*11+10,none⟩=some (.I x.m7)):=fun k h x e w' hb=>by
   obtain⟨a0,a1,a2,a3,a4,a5,a6,a7,a8,a9,a10⟩:=hcellW k h;subst e;exact⟨(hb.cell (p:=⟨bW,oW+k*11,none⟩) hblW).trans a0,(hb.cell (p:=⟨bW,oW+k*11+1,none⟩) hblW).trans a1,(hb.cell (p:=⟨bW,oW+k*11+2,none⟩) hblW).trans a2,(hb.cell (p:=⟨bW,oW+k*11+3,none⟩) hblW).trans a3,(hb.cell (p:=⟨bW,oW+k*11+4,none⟩) hblW).trans a4,(hb.cell (p:=⟨bW,oW+k*11+5,none⟩) hblW).trans a5,(hb.cell (p:=⟨bW,oW+k*11+6,none⟩) hblW).trans a6,(hb.cell (p:=⟨bW,oW+k*11+7,none⟩) hblW).trans a7,(hb.cell (p:=⟨bW,oW+k*11+8,none⟩) hblW).trans a8,(hb.cell (p:=⟨bW,oW+k*11+9,none⟩) hblW).trans a9,(hb.cell (p:=⟨bW,oW+k*11+10,none⟩) hblW).trans a10⟩
  clear hcellW HW L16 LD WAYS hi;obtain⟨x0,x1⟩:=CA.o _ A1.o;generalize hkd:zai ns (i:Int)=kd at *
  rcases c with ⟨rfl,rfl⟩ | ⟨c,rfl⟩
  ·obtain rfl:x=zgg:=HX.o.trans (if_neg (by simp));go_wp2_with fail;refine(LD2.o _ B1.o).mono ?_;rintro e w2 ⟨rfl,hb2⟩;have A2:=zaa (zpj A1.o hb2);have B2:=zaa (zab B1.o hb2 B1.o.size);have hz2:w.heap.size+1<w2.heap.size:=Nat.lt_of_lt_of_le hz1 hb2.size;clear hb2 x0 x1;have E:=zaa (zak (CR.o _ A2.o));have p0:=(E.o 0).1;have f0:=(E.o 0).2;have p1:=(E.o 1).1;have f1:=(E.o 1).2;have p2:=(E.o 2).1;have f2:=(E.o 2).2;have p3:=(E.o 3).1;have f3:=(E.o 3).2;have p4:=(E.o 4).1;have f4:=(E.o 4).2;have p5:=(E.o 5).1;have f5:=(E.o 5).2;have p6:=(E.o 6).1;have f6:=(E.o 6).2;have p7:=(E.o 7).1;have f7:=(E.o 7).2;have p8:=(E.o 8).1;have f8:=(E.o 8).2;have p9:=(E.o 9).1;have f9:=(E.o 9).2;have p10:=(E.o 10).1;have f10:=(E.o 10).2;have p11:=(E.o 11).1;have f11:=(E.o 11).2;simp only[List.getElem?_cons_zero,List.getElem?_cons_succ]at p0 p1 p2 p3 p4 p5 p6 p7 p8 p9 p10 p11;clear CR CA LD2 hkd;go_wp2;refine bodyPost_ret (v:=.tuple #[.agg #[.I 0,.I 0,.I 0,.I 0,.I 0,.I 0,.I 0,.I 0,.I 0,.I 0,.I 0,.I 0],.I 9]) (by simp[results,Tryz.results37,go_sem,p0,p1,p2,p3,p4,p5,p6,p7,p8,p9,p10,p11]) rfl ⟨rfl,?_⟩
   repeat (first | with_reducible exact B2.o | refine Below.setCell ?_ (by simp only;omega) _)
  ·have hxi:x=ns[i]:=by
    rw[HX.o];unfold faI;rw[if_pos rfl,Int.toNat_natCast,zbj i1]
   have q:(kd == 2)=false:=by rw[beq_eq_false_iff_ne];exact c
   have HC2:=zaa (HC.o i i1 x hxi);clear HX hxi HC c hkd;go_wp2_with fail;refine(LD2.o _ B1.o).mono ?_;rintro e w2 ⟨rfl,hb2⟩;have A2:=zaa (zpj A1.o hb2);have B2:=zaa (zab B1.o hb2 B1.o.size);have hz2:w.heap.size+1<w2.heap.size:=Nat.lt_of_lt_of_le hz1 hb2.size;clear hb2 x0 x1;have E:=zaa (zak (CR.o _ A2.o));have p0:=(E.o 0).1;have f0:=(E.o 0).2;have p1:=(E.o 1).1;have f1:=(E.o 1).2;have p2:=(E.o 2).1;have f2:=(E.o 2).2;have p3:=(E.o 3).1;have f3:=(E.o 3).2;have p4:=(E.o 4).1;have f4:=(E.o 4).2;have p5:=(E.o 5).1;have f5:=(E.o 5).2;have p6:=(E.o 6).1;have f6:=(E.o 6).2;have p7:=(E.o 7).1;have f7:=(E.o 7).2;have p8:=(E.o 8).1;have f8:=(E.o 8).2;have p9:=(E.o 9).1;have f9:=(E.o 9).2;have p10:=(E.o 10).1;have f10:=(E.o 10).2;have p11:=(E.o 11).1;have f11:=(E.o 11).2;simp only[List.getElem?_cons_zero,List.getElem?_cons_succ]at p0 p1 p2 p3 p4 p5 p6 p7 p8 p9 p10 p11;obtain⟨x0,x1⟩:=CA.o _ A2.o;obtain⟨a0,a1,a2,a3,a4,a5,a6,a7,a8,a9,a10⟩:=HC2.o _ B2.o;clear CR CA LD2 HC2;go_wp2;refine bodyPost_ret (v:=.tuple #[.agg #[.I x.kind,.I x.size,.I x.links,.I x.m0,.I x.m1,.I x.m2,.I x.m3,.I x.m4,.I x.m5,.I x.m6,.I x.m7,.I (i:Int)],.I 0]) (by simp[results,Tryz.results37,go_sem,p0,p1,p2,p3,p4,p5,p6,p7,p8,p9,p10,p11]) rfl ⟨rfl,?_⟩
   repeat (first | with_reducible exact B2.o | refine Below.setCell ?_ (by simp only;omega) _)
end Go.Proofs.YtogcbbkhnpmgeaaGreatDoor
