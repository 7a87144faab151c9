import Derived.Test.YtogcbbkhnpmgeaaGreatDoorZAH
import Derived.Test.YtogcbbkhnpmgeaaGreatDoorZAJ
import Derived.Deep.DeepCutAuto
import Derived.Lib.Strings
set_option maxRecDepth 100000
set_option maxHeartbeats 8000000
namespace Go.Proofs.YtogcbbkhnpmgeaaGreatDoor
open Go.RowKit
def ziw(ws:List Ino):Bool:=zfk (zbn (zap ws) 1)&&zfk (zbn (zap ws) 2)
def zcr(ws:List Ino)(ps:List Den):Bool:=decide (ws.length=16)&&(decide (ps.length=24)&&(zai ws 0 == 2&&(zwo ws&&(zhz ws ps&&(zfv ws ps&&ziw ws)))))
theorem zet{x:Ino}(h:zdp x=true):(∀ z∈x.map,zef z=true)/\(x.kind=2->x.links=1):=by
 unfold zdp at h;simp only[Bool.and_eq_true,decide_eq_true_eq]at h;obtain⟨_,_,_,d,f⟩:=h;refine⟨fun z hz=>?_,fun k=>?_⟩
 ·obtain⟨i,hi,rfl⟩:=List.getElem_of_mem hz;have:=zhb d i hi;rw[List.getD_eq_getElem?_getD,List.getElem?_eq_getElem hi]at this;unfold zpp at this;simp only[Option.getD_some,Bool.and_eq_true]at this;exact this.1
 ·unfold zex at f;rw[if_neg (by omega),if_pos k]at f;simp only[Bool.and_eq_true,beq_iff_eq]at f;exact f.2
theorem zdv{z:Int}(h:zef z=true):0<=z/\z<=1048576:=by
 unfold zef zgp at h;simp only[Bool.and_eq_true,decide_eq_true_eq]at h;omega
theorem ztz{ws:List Ino}(h:zwo ws=true):∀ i (h:i<ws.length),∀ z∈ws[i].map,zef z=true:=fun i hi=>(zet ((of_decide_eq_true h:∀ k (h:k<ws.length),zdp ws[k]=true) i hi)).1
theorem yaqe(ws:List Ino)(ps:List Den):pimB ws ps=zcr ws ps:=by
 unfold pimB zcr zgx
 by_cases l1:ws.length=16
 case neg=>simp[l1]
 by_cases l2:ps.length=24
 case neg=>simp[l2]
 rw[decide_eq_true l1,decide_eq_true l2,Bool.true_and,Bool.true_and,Bool.true_and,Bool.true_and]
 cases o1:zwo ws
 ·simp
 cases o2:okDs ps
 ·have:zhz ws ps=false:=by
   rw[Bool.eq_false_iff];intro e;rw[yarj e]at o2
   cases o2
  rw[this];simp
 rw[yary o2]
 cases f1:zpk ws (zas ps)
 ·simp
 cases f2:znm ((zas ps).map zhx)
 ·simp
 rw[yaln l1 (fun i hi=>(zet ((of_decide_eq_true o1:∀ k (h:k<ws.length),zdp ws[k]=true) i hi)).2) o2 f1];have s1:ziw ws=zfk (zap ws):=zop (fun e he=>(zou (ztz o1) e he).2);rw[s1];simp[Bool.and_assoc]
theorem zrz(v:Value)(ws:List Ino)(ps:List Den)(w:World)(h:RdIm w v ws ps)(hn:ws.length=16)(hr:∀ k (h:k<ws.length),∀ z∈ws[k].map,0<=z/\z<=1048576) :
  zC 91 #[v] w fun e w'=>e=.returned (.bool (ziw ws))/\zB w w':=by
 have HR:=zaa h;have LU:=zaa (fun t w1 h=>zny v ws ps t w1 h (by omega) hr);have UL:=zaa (fun t=>show(zbn (zap ws) t).length<=128 by have:=zkn (zap ws) t;have:=zhr ws;omega);obtain⟨vW,vP,rfl,h1,h2⟩:=h;obtain⟨aW,cW,rfl,_,_⟩:=h1.shape;obtain⟨aP,cP,rfl,_,_⟩:=h2.shape;clear h1 h2 hr hn
 obtain⟨W,hW⟩:=zE (w.alloc (.cells #[.slice aW ws.length cW,.slice aP ps.length cP] 51))
 have CA:Hid (∀ w',zB W w'->w'.cell? ⟨w.heap.size,0,none⟩=some (.slice aW ws.length cW)/\w'.cell? ⟨w.heap.size,1,none⟩=some (.slice aP ps.length cP)):=fun w' hb=>by
  have:w'.heap[w.heap.size]?=some (.cells #[.slice aW ws.length cW,.slice aP ps.length cP] 51 (0,0)):=(hb.block _ (by rw[hW];simp)).trans (by rw[hW];exact zah rfl);exact⟨(zac this).1,(zac this).2.1⟩
 have BW:Hid (zB w W):=by rw[hW];exact zR.alloc zL _
 have hz:w.heap.size<=W.heap.size:=BW.o.size;have SG:=zaa (show ziw ws=(zfk (zbn (zap ws) 1)&&zfk (zbn (zap ws) 2))from rfl);generalize zbn (zap ws)=uf at *;go_enter Tryz.func91,Tryz.ntmps91;go_wp2;rw[<- hW];clear hW
 go_loopw [3] (fun i wr=>∃ t:Nat,(1<=t/\t<=3)/\i=.I t/\Hid (zB W wr/\∀ s:Nat,1<=s->s<t->zfk (uf (s:Int))=true)) (fun i _=>3-(intOf i).toNat)
 case atStart=>exact⟨1,by omega,rfl,zR,fun s h a=>absurd a (by omega)⟩
 case round =>
  obtain⟨t,ht,rfl,J⟩:=hrel;have J1:=zaa J.o.1;have JW:=zaa (zab BW.o J.o.1 hz);obtain⟨x0,x1⟩:=CA.o wr J.o.1
  by_cases hlt:t<=2
  ·have t2:(t:Int)<=2:=by omega
   have t1:(0:Int)<=(t:Int):=by omega
   have JS:=zaa J.o.2
   have NO:Hid (zfk (uf (t:Int))=false->ziw ws=false):=fun q=>by
    rw[SG.o]
    rcases(show t=1\/t=2 by omega)with rfl|rfl
    ·rw[show((1:Nat):Int)=1 from rfl]at q;rw[q];rfl
    ·rw[show((2:Nat):Int)=2 from rfl]at q;rw[q,Bool.and_false]
   clear J;go_wp2_with fail;refine(LU.o _ _ (HR.o.below JW.o)).mono ?_;rintro e w1 ⟨v1,rfl,hr1,hb1⟩;obtain⟨-,aL,cL,hvL,hcap,-⟩:=hr1.rd;have hcap1:=hcap.1;subst hvL;have R1:Hid (RdI w1 (.slice aL (uf (t:Int)).length cL) (uf (t:Int))):=hr1.rd;have B1:=zaa (zab J1.o hb1 J1.o.size);have B2:=zaa (zab BW.o B1.o hz);have ul:=UL.o (t:Int)
   have JN:Hid (zfk (uf (t:Int))=true->∀ s:Nat,1<=s->s<t+1->zfk (uf (s:Int))=true):=fun q s h a=>by
    by_cases e:s=t
    ·subst e;exact q
    ·exact JS.o s h (by omega)
   clear hr1 hb1 x0 x1 hcap JS;generalize uf (t:Int)=zs at *;obtain⟨aZ,cZ,e,_,hcZ⟩:=R1.o.shape;have HZ:=zaa hcZ
   obtain⟨rfl,rfl⟩:aZ=aL/\cZ=cL:=by cases e;exact⟨rfl,rfl⟩
   clear e hcZ;go_wp2
   go_loopw [5] (fun i wq=>∃ k:Nat,k<=zs.length/\i=.I k/\Hid (zB w1 wq/\∀ j (h:j<zs.length),j<k->zha (zs.take j) zs[j]=false)) (fun i _=>zs.length-(intOf i).toNat)
   case atStart=>exact⟨0,by omega,rfl,zR,fun j h a=>absurd a (by omega)⟩
   case round =>
    obtain⟨k,hk,rfl,H⟩:=hrel
    have k0:(0:Int)<=(k:Int):=by omega
    have H1:=zaa H.o.1;have HB:=zaa (zab B1.o H.o.1 B1.o.size);have HF:=zaa (zab B2.o H.o.1 B2.o.size)
    by_cases hlk:k<zs.length
    ·obtain⟨b,o,rfl,hbl,hcell⟩:=HZ.o (by omega);have hck:=(H1.o.cell (p:=⟨b,o+k,none⟩) hbl).trans (hcell k hlk)
     have k1:(k:Int)<(zs.length:Int):=by omega
     have k2:(k:Int)<=(cZ:Int):=by omega
     have hblr:b<wr.heap.size:=by have:=H1.o.size;omega
     have RT:=zaa (RdI.take (Rd.below R1.o H1.o) hk);have LT:=zaa (show(zs.take k).length<=1048576 by rw[List.length_take];omega);clear hcell
     cases q:zha (zs.take k) zs[k] with
     | false =>
      have H':Hid (∀ j (h:j<zs.length),j<k+1->zha (zs.take j) zs[j]=false):=fun j h a=>by
       by_cases e:j=k
       ·subst e;exact q
       ·exact H.o.2 j h (by omega)
      have Q:=zaa q;clear q H;generalize zs[k]=z at hck Q;go_wp2
      have RB:Hid (∀ w',zB wr w'->RdI w' (.slice (some ⟨b,o,none⟩) k cZ) (zs.take k)):=fun w' hb=>Rd.below RT.o hb
      have SK:Hid (∀ w',zB wr w'->w'.cell? ⟨b,o+k,none⟩=some (.I z)):=fun w' hb=>(hb.cell (p:=⟨b,o+k,none⟩) hblr).trans hck
      go_region_held3 (fun w'=>w'.cell? ⟨b,o+k,none⟩=some (.I z))
       (exact SK.o _ (by repeat (first | exact zR | refine Below.drew ?_)))
       (first
        | (go_at_call 159;refine(zkr _ (zs.take k) z _ (RB.o _ (by repeat (first | exact zR | refine Below.drew ?_))) LT.o).mono ?_;rw[Q.o];rintro e w' ⟨rfl,hw'⟩;subst w'))
      all_goals
       clear SK RB hck;go_wp2
       go_roundw
       case rel=>exact⟨k+1,by omega,by go_num,(by repeat (first | exact H1.o | refine Below.drew ?_)),H'.o⟩
       case measure=>simp[intOf];omega
     | true =>
      have E:=zaa (NO.o (zua hlk q));have Q:=zaa q;clear q H;generalize zs[k]=z at hck Q;go_wp2
      have RB:Hid (∀ w',zB wr w'->RdI w' (.slice (some ⟨b,o,none⟩) k cZ) (zs.take k)):=fun w' hb=>Rd.below RT.o hb
      have SK:Hid (∀ w',zB wr w'->w'.cell? ⟨b,o+k,none⟩=some (.I z)):=fun w' hb=>(hb.cell (p:=⟨b,o+k,none⟩) hblr).trans hck
      go_region_held3 (fun w'=>w'.cell? ⟨b,o+k,none⟩=some (.I z))
       (exact SK.o _ (by repeat (first | exact zR | refine Below.drew ?_)))
       (first
        | (go_at_call 159;refine(zkr _ (zs.take k) z _ (RB.o _ (by repeat (first | exact zR | refine Below.drew ?_))) LT.o).mono ?_;rw[Q.o];rintro e w' ⟨rfl,hw'⟩;subst w'))
      all_goals
       clear SK RB hck;go_wp2;go_ret;exact⟨zag E.o.symm,(by repeat (first | exact HF.o | refine Below.drew ?_))⟩
    ·have E:=zaa (JN.o (yaak (fun j h=>H.o.2 j h (by omega))));clear H;go_wp2
     go_roundw
     case rel=>exact⟨t+1,by omega,by go_num,HB.o,E.o⟩
     case measure=>simp[intOf];omega
  ·obtain rfl:t=3:=by omega
   have E:=zaa (show ziw ws=true by
    have e1:zfk (uf 1)=true:=J.o.2 1 (by omega) (by omega);have e2:zfk (uf 2)=true:=J.o.2 2 (by omega) (by omega)
    rw[SG.o,e1,e2];rfl)
   clear J;go_wp2;go_ret;exact⟨zag E.o.symm,JW.o⟩
theorem zhn(v:Value)(ws:List Ino)(ps:List Den)(w:World)(h:RdIm w v ws ps)(hw:ws.length<=1048576)(hp:ps.length<=1048576)(hT:TS w)(hE:ED w)(hF:FD w)(hr:∀ k (h:k<ws.length),ws[k].R)(hs:∀ k (h:k<ps.length),ps[k].name.size<=maxLen) :
  zC 24 #[v] w fun e w'=>e=.returned (.bool (zcr ws ps))/\zB w w':=by
 rw[<- yaqe];exact yain v ws ps w h hw hp hT hE hF hr hs
theorem zoc(v:Value)(ws:List Ino)(ps:List Den)(w:World)(h:RdIm w v ws ps)(hw:ws.length<=1048576)(hp:ps.length<=1048576)(hr:∀ k (h:k<ws.length),ws[k].R)(hs:∀ k (h:k<ps.length),ps[k].name.size<=maxLen) :
  zC 41 #[v] w fun e w'=>e=.returned (.bool (zcr ws ps))/\zB w w':=by
 have HRD:=zaa h;have HR:=zaa hr;have L1:=zaa (fun w1 h=>zvr v ws ps w1 h hw hp);have L2:=zaa (fun w1 h (hl:ws.length=16)=>zpq v ws ps w1 h hl hp hs);have L3:=zaa (fun w1 h (hl:ws.length=16) (o:zwo ws=true)=>zrz v ws ps w1 h hl (fun k hk z hz=>zdv (ztz o k hk z hz)));obtain⟨vW,vP,rfl,h1,h2⟩:=h;obtain⟨aW,cW,rfl,_,hcW⟩:=h1.shape;obtain⟨aP,cP,rfl,_,_⟩:=h2.shape;have HW:=zaa hcW;clear h1 h2 hr hs hcW
 have CA:Hid (∀ w',Below (w.alloc (.cells #[.slice aW ws.length cW,.slice aP ps.length cP] 51)).heap.size (w.alloc (.cells #[.slice aW ws.length cW,.slice aP ps.length cP] 51)) w'->w'.cell? ⟨w.heap.size,0,none⟩=some (.slice aW ws.length cW)/\w'.cell? ⟨w.heap.size,1,none⟩=some (.slice aP ps.length cP)):=fun w' hb=>by
  have:w'.heap[w.heap.size]?=some (.cells #[.slice aW ws.length cW,.slice aP ps.length cP] 51 (0,0)):=(hb.block _ (by simp)).trans (zah rfl);exact⟨(zac this).1,(zac this).2.1⟩
 have BW:Hid (zB w (w.alloc (.cells #[.slice aW ws.length cW,.slice aP ps.length cP] 51))):=zR.alloc zL _;obtain⟨x0,x1⟩:=CA.o _ zR;have EI:=zaa (show zcr ws ps=(decide (ws.length=16)&&(decide (ps.length=24)&&(zai ws 0 == 2&&(zwo ws&&(zhz ws ps&&(zfv ws ps&&ziw ws))))))from rfl)
 by_cases c1:ws.length=16
 case neg =>
  have E:=zaa (show zcr ws ps=false by rw[EI.o,decide_eq_false c1];rfl)
  have q:((ws.length:Int) != 16)=true:=by rw[bne_iff_ne];omega
  clear c1;go_enter Tryz.func41,Tryz.ntmps41;go_wp2;go_ret;exact⟨zag E.o.symm,BW.o⟩
 have q:((ws.length:Int) != 16)=false:=by rw[c1];rfl
 by_cases c2:ps.length=24
 case neg =>
  have E:=zaa (show zcr ws ps=false by rw[EI.o,decide_eq_false c2,Bool.false_and,Bool.and_false])
  have q2:((ps.length:Int) != 24)=true:=by rw[bne_iff_ne];omega
  clear c1 c2;go_enter Tryz.func41,Tryz.ntmps41;go_wp2;go_ret;exact⟨zag E.o.symm,BW.o⟩
 have q2:((ps.length:Int) != 24)=false:=by rw[c2];rfl
 obtain⟨bW,oW,rfl,hblW,hcellW⟩:=HW.o (by omega);have HK:=(hcellW 0 (by omega)).1;rw[show ws[0].kind=zai ws 0 from(zbk (i:=0) (by omega)).symm]at HK;simp only[Nat.zero_mul,Nat.add_zero]at HK;have kk:=(BW.o.cell (p:=⟨bW,oW,none⟩) hblW).trans HK
 have len16:(0:Int)<(ws.length:Int):=by omega
 have C1:=zaa c1;have E1:=zaa (show zcr ws ps=(zai ws 0 == 2&&(zwo ws&&(zhz ws ps&&(zfv ws ps&&ziw ws)))) by rw[EI.o,decide_eq_true c1,decide_eq_true c2];rfl);have HC:=zaa hcellW;clear c1 c2 EI HK hcellW HW;generalize zai ws 0=k0 at *
 by_cases c3:k0=2
 case neg =>
  have q3:(k0 != 2)=true:=by rw[bne_iff_ne];exact c3
  have E:=zaa (show zcr ws ps=false by rw[E1.o,show(k0 == 2)=false by rw[beq_eq_false_iff_ne];exact c3];rfl);clear c3;go_enter Tryz.func41,Tryz.ntmps41;go_wp2;go_ret;exact⟨zag E.o.symm,BW.o⟩
 have q3:(k0 != 2)=false:=by rw[c3];rfl
 have E2:=zaa (show zcr ws ps=(zwo ws&&(zhz ws ps&&(zfv ws ps&&ziw ws))) by rw[E1.o,c3];rfl);clear c3 E1;go_enter Tryz.func41,Tryz.ntmps41;go_wp2;clear x0 x1 kk q q2 q3;generalize w.alloc (.cells #[.slice (some ⟨bW,oW,none⟩) ws.length cW,.slice aP ps.length cP] 51)=W at *;have hz:w.heap.size<=W.heap.size:=BW.o.size
 go_loopw [3] (fun i wr=>∃ k:Nat,k<=ws.length/\i=.I k/\Hid (zB W wr/\∀ j (h:j<ws.length),j<k->zdp ws[j]=true)) (fun i _=>ws.length-(intOf i).toNat)
 case atStart=>exact⟨0,by omega,rfl,zR,fun j h a=>absurd a (by omega)⟩
 case round =>
  obtain⟨k,hk,rfl,H⟩:=hrel;have H1:=zaa H.o.1;have HF:=zaa (zab BW.o H.o.1 hz);obtain⟨x0,x1⟩:=CA.o wr H.o.1
  by_cases hlt:k<ws.length
  ·obtain⟨a0,a1,a2,a3,a4,a5,a6,a7,a8,a9,a10⟩:=HC.o k hlt;have d0:=(HF.o.cell (p:=⟨bW,oW+k*11,none⟩) hblW).trans a0;have d1:=(HF.o.cell (p:=⟨bW,oW+k*11+1,none⟩) hblW).trans a1;have d2:=(HF.o.cell (p:=⟨bW,oW+k*11+2,none⟩) hblW).trans a2;have d3:=(HF.o.cell (p:=⟨bW,oW+k*11+3,none⟩) hblW).trans a3;have d4:=(HF.o.cell (p:=⟨bW,oW+k*11+4,none⟩) hblW).trans a4;have d5:=(HF.o.cell (p:=⟨bW,oW+k*11+5,none⟩) hblW).trans a5;have d6:=(HF.o.cell (p:=⟨bW,oW+k*11+6,none⟩) hblW).trans a6;have d7:=(HF.o.cell (p:=⟨bW,oW+k*11+7,none⟩) hblW).trans a7;have d8:=(HF.o.cell (p:=⟨bW,oW+k*11+8,none⟩) hblW).trans a8;have d9:=(HF.o.cell (p:=⟨bW,oW+k*11+9,none⟩) hblW).trans a9;have d10:=(HF.o.cell (p:=⟨bW,oW+k*11+10,none⟩) hblW).trans a10
   have k0':(0:Int)<=(k:Int):=by omega
   have k1:(k:Int)<(ws.length:Int):=by omega
   have LI:=zaa (fun w1=>zwj ws[k] w1 (HR.o k hlt))
   have H2:Hid (zdp ws[k]=true->∀ j (h:j<ws.length),j<k+1->zdp ws[j]=true):=fun q j h a=>by
    by_cases e:j=k
    ·subst e;exact q
    ·exact H.o.2 j h (by omega)
   have H3:=zaa (fun q=>yaaa hlt q);clear a0 a1 a2 a3 a4 a5 a6 a7 a8 a9 a10 H;generalize ws[k]=x at d0 d1 d2 d3 d4 d5 d6 d7 d8 d9 d10 LI H2 H3
   cases qq:zdp x with
   | true =>
    rw[qq]at LI;have E:=zaa (H2.o qq);clear H2 H3 qq;go_wp2_with fail;refine(LI.o _).mono ?_;rintro e w1 ⟨rfl,hb1⟩;have B3:=zaa (zab H1.o hb1 H1.o.size);clear hb1 d0 d1 d2 d3 d4 d5 d6 d7 d8 d9 d10 x0 x1;go_wp2
    go_roundw
    case rel=>exact⟨k+1,by omega,by go_num,B3.o,E.o⟩
    case measure=>simp[intOf];omega
   | false =>
    rw[qq]at LI;have E:=zaa (show zcr ws ps=false by rw[E2.o,H3.o qq];rfl);clear H2 H3 qq;go_wp2_with fail;refine(LI.o _).mono ?_;rintro e w1 ⟨rfl,hb1⟩;have B3:=zaa (zab HF.o hb1 HF.o.size);clear hb1 d0 d1 d2 d3 d4 d5 d6 d7 d8 d9 d10 x0 x1;go_wp2;go_ret;exact⟨zag E.o.symm,B3.o⟩
  ·have O:=zaa (yady (fun j h=>H.o.2 j h (by omega)));have E3:=zaa (show zcr ws ps=(zhz ws ps&&(zfv ws ps&&ziw ws)) by rw[E2.o,O.o];rfl);clear H;generalize zhz ws ps=f1 at *;generalize zfv ws ps=f2 at *;generalize ziw ws=f3 at *;go_wp2_with fail;refine(L2.o _ (HRD.o.below HF.o) C1.o).mono ?_;rintro e w1 ⟨rfl,hb1⟩;have B1:=zaa (zab HF.o hb1 HF.o.size);have BA:=zaa (zab H1.o hb1 H1.o.size);clear hb1 x0 x1
   cases f1 with
   | false =>
    go_wp2;go_ret;exact⟨zag (by rw[E3.o];rfl),B1.o⟩
   | true =>
   obtain⟨x0,x1⟩:=CA.o _ BA.o;go_wp2_with fail;refine(L1.o _ (HRD.o.below B1.o)).mono ?_;rintro e w2 ⟨rfl,hb2⟩;have B2:=zaa (zab B1.o hb2 B1.o.size);have BB:=zaa (zab BA.o hb2 BA.o.size);clear hb2 x0 x1
   cases f2 with
   | false =>
    go_wp2;go_ret;exact⟨zag (by rw[E3.o];rfl),B2.o⟩
   | true =>
   obtain⟨x0,x1⟩:=CA.o _ BB.o;go_wp2_with fail;refine(L3.o _ (HRD.o.below B2.o) C1.o O.o).mono ?_;rintro e w3 ⟨rfl,hb3⟩;have B3:=zaa (zab B2.o hb3 B2.o.size);clear hb3 x0 x1;go_wp2;go_ret;exact⟨zag (by rw[E3.o];rfl),B3.o⟩
def zpt(ps:List Den):Nat->Int->Int->Bool
 | 0,_,_=>false
 | n+1,a,b=>if a<0 then false else if a=b then true else zpt ps n (upD ps a) b
theorem yahz(ps:List Den)(n:Nat)(a b:Int):zpt ps (n+1) a b=if a<0 then false else if a=b then true else zpt ps n (upD ps a) b:=rfl
theorem zft(ps:List Den)(n:Nat)(d:Int):zdk ps (n+1) d=if d=0 then true else if upD ps d<0 then false else zdk ps n (upD ps d):=rfl
theorem zko(ps:List Den)(d:Int):zdk ps 0 d=false:=rfl
theorem znv{ps:List Den}{k:Nat}{x:Int}(h:zdk ps (k+1) x=true)(q:¬ x=0):0<=upD ps x/\zdk ps k (upD ps x)=true:=by
 rw[zft,if_neg q]at h
 by_cases r:upD ps x<0
 ·rw[if_pos r]at h;cases h
 ·rw[if_neg r]at h;exact⟨by omega,h⟩
theorem zaw{ws:List Ino}{ps:List Den}(h:zcr ws ps=true):ws.length=16/\ps.length=24/\zai ws 0=2/\zwo ws=true/\zhz ws ps=true/\zfv ws ps=true/\ziw ws=true:=by
 unfold zcr at h;simp only[Bool.and_eq_true,decide_eq_true_eq,beq_iff_eq]at h;exact h
theorem zma{ws:List Ino}{ps:List Den}(h:zcr ws ps=true)(i:Nat)(hi:i<ps.length):(ps[i].child=-1/\ps[i].name.size=0)\/((1<=ps[i].child/\ps[i].child<=15)/\(0<=ps[i].dir/\ps[i].dir<=15)/\nmB ps[i].name=true/\¬ zai ws ps[i].child=0/\zai ws ps[i].dir=2):=by
 obtain⟨_,_,_,_,he,_,_⟩:=zaw h;have e:=(of_decide_eq_true he:∀ i (h:i<ps.length),zda ws ps i ps[i]=true) i hi;unfold zda at e
 split at e
 ·rename_i c;left;refine⟨c,?_⟩;unfold Den.freeB at e;simp only[Bool.and_eq_true,beq_iff_eq]at e;have:=e.2.1
  first
   | exact this
   | simpa using this
   | (simp at this;rw[this];rfl)
 ·right;simp only[Bool.and_eq_true,decide_eq_true_eq,Bool.not_eq_true',beq_eq_false_iff_ne,beq_iff_eq]at e;exact⟨e.1,e.2.1,e.2.2.1,e.2.2.2.1,e.2.2.2.2.1⟩
def zel(ss:List ByteArray):List Value:=ss.map Value.string
theorem zsv(ss:List ByteArray):(zel ss).length=ss.length:=by simp[zel]
theorem zse(ss:List ByteArray)(k:Nat)(h:k<ss.length):(zel ss)[k]?=some (.string ss[k]):=by simp[zel,h]
theorem zbe(ss:List ByteArray):∀ u∈zel ss,u.oneCell'=true:=by
 intro u hu;simp only[zel,List.mem_map]at hu;obtain⟨s,_,rfl⟩:=hu;rfl
def RdT(w:World)(v:Value)(ss:List ByteArray):Prop:=Rd w 1 v ss.length (zel ss)
theorem RdT.shape{w:World}{v:Value}{ss:List ByteArray}(h:RdT w v ss):∃ ao cap,v=.slice ao ss.length cap/\ss.length<=cap/\(0<ss.length->∃ b o,ao=some ⟨b,o,none⟩/\b<w.heap.size/\∀ k (h:k<ss.length),w.cell? ⟨b,o+k,none⟩=some (.string ss[k])):=by
 obtain⟨_,ao,cap,rfl,h2,h3⟩:=h;refine⟨ao,cap,rfl,h2.1,fun hn=>?_⟩;obtain⟨b,o,e,hb,hc⟩:=h3 hn;exact⟨b,o,e,hb,fun k hk=>(hc k (by omega)).trans (zse ss k hk)⟩
theorem zff:(Tryz.prog.info? 9).map (fun i=>(i.zero,i.size,i.bytes))=some (some (.string ⟨#[]⟩),1,16):=by kernel_rfl
theorem zic(w1:World)(x:ByteArray):Rd (w1.alloc (.cells #[.string x] 9)) 1 (.slice (some ⟨w1.heap.size,0,none⟩) 1 1) 1 (zel [x]):=by
 refine⟨rfl,_,_,rfl,⟨Nat.le_refl _,fun e=>by cases e⟩,fun _=>⟨w1.heap.size,0,rfl,by simp,fun j hj=>?_⟩⟩
 obtain rfl:j=0:=by omega
 exact(zak (xs:=[.string x]) (zah rfl) 0).1
theorem zim{B:Nat}{a w:World}(h:Below B a w)(n:Nat):Below B a (w.drewN n):=by
 induction n with
 | zero=>exact h
 | succ n ih=>exact⟨ih.os,ih.tape,ih.output,ih.size,ih.block⟩
structure SnI(W w:World)(vL:Value)(ss:List ByteArray):Prop where
 l:w.ownsRow W.heap.size 9 1 vL ss.length (zel ss)
 b:zB W w
theorem SnI.z{W w:World}{vL:Value}{ss:List ByteArray}(h:SnI W w vL ss):W.heap.size<=w.heap.size:=h.b.size
theorem SnI.below{W w w':World}{vL:Value}{ss:List ByteArray}(h:SnI W w vL ss)(hb:zB w w'):SnI W w' vL ss :=
 ⟨((zad h.l).below hb zL).1,zab h.b hb h.z⟩
theorem yanu(l l':List ByteArray):zel (l++l')=zel l++zel l':=by simp[zel]
theorem SnI.grow{W w w':World}{vL v':Value}{ss:List ByteArray}(h:SnI W w vL ss)(l:List ByteArray){m:Nat}(hm:m=l.length)(ho:w'.ownsRow W.heap.size 9 1 v' (ss.length+m) (zel ss++zel l))(hg:w.grownBy w' vL.ownBlock):SnI W w' v' (ss++l) :=
 ⟨by rw[yanu,List.length_append,<- hm];exact ho,h.b.grown hg h.z (fun q hq=>(h.l.lt q hq).1)⟩
theorem SnI.rd{W w:World}{vL:Value}{ss:List ByteArray}(h:SnI W w vL ss):RdT w vL ss:=(zad h.l).rd
theorem SnI.form{W w:World}{vL:Value}{ss:List ByteArray}(h:SnI W w vL ss)(hn:vL≠.N):∃ b c,vL=.slice (some ⟨b,0,none⟩) ss.length c/\ss.length<=c/\W.heap.size<=b/\b<w.heap.size:=by
 rcases(zad h.l).shape with ⟨e,_⟩ | ⟨b,c,rfl,hc,_⟩
 ·exact absurd e hn
 ·obtain⟨_,h1,_,h2,_⟩:=(zad h.l).at
  exact⟨b,c,rfl,hc,h1,h2⟩
theorem SnI.some_{W w:World}{vL:Value}{ss:List ByteArray}(h:SnI W w vL ss)(hn:0<ss.length):vL≠.N:=by
 rcases(zad h.l).shape with ⟨_,e,_⟩ | ⟨b,c,rfl,_⟩
 ·omega
 ·intro e;cases e
theorem zrf{w:World}{ao:Option Addr}{n c:Nat}{l:List ByteArray}{m:Nat}(h:RdT w (.slice ao n c) l)(hm:m<=l.length):Rd w 1 (.slice ao m c) m (zel (l.take m)):=by
 obtain⟨_,ao',cap,e,h2,h3⟩:=h;injection e with e1 e2 e3;subst e1 e2 e3
 have hl:(l.take m).length=m:=by rw[List.length_take];omega
 refine⟨by rw[zsv,hl,Nat.mul_one],ao,c,rfl,⟨by omega,h2.2⟩,fun hp=>?_⟩;obtain⟨b,o,rfl,hb,hcl⟩:=h3 (by omega);refine⟨b,o,rfl,hb,fun j hj=>?_⟩;rw[hcl j (by omega),zse _ _ (by omega),zse _ _ (by omega),List.getElem_take]
theorem zsa{w:World}{b o n c:Nat}{l:List ByteArray}{m:Nat}(h:RdT w (.slice (some ⟨b,o,none⟩) n c) l)(hm:m<=l.length):Rd w 1 (.slice (some ⟨b,o+m,none⟩) (n-m) (c-m)) (n-m) (zel (l.drop m)):=by
 obtain⟨ao,cap,e,hc,hcell⟩:=h.shape;injection e with e1 e2 e3;subst e1 e2 e3;refine⟨by rw[zsv,Nat.mul_one,List.length_drop],some ⟨b,o+m,none⟩,c-m,rfl,⟨by omega,fun e=>by cases e⟩,fun hp=>?_⟩;obtain⟨b',o',e',hb,hcl⟩:=hcell (by omega)
 cases e'
 refine⟨b,o+m,rfl,hb,fun j hj=>?_⟩;rw[zse _ j (by rw[List.length_drop];omega),List.getElem_drop];have:=hcl (m+j) (by omega);rw[<- Nat.add_assoc]at this;exact this
theorem zzy{w:World}{a:Addr}{c:Nat}{l:List ByteArray}{m:Nat}(hm:m=l.length):Rd w 1 (.slice (some a) 0 c) 0 (zel (l.drop m)) :=
 ⟨by rw[zsv,List.length_drop];omega,some a,c,rfl,⟨Nat.zero_le _,fun e=>by cases e⟩,fun h=>absurd h (by omega)⟩
def Ord(ss:List ByteArray):Prop:=ss.Pairwise fun a b=>a.toList<=b.toList
theorem yagz{ss:List ByteArray}{x:ByteArray}{k:Nat}(hk:k<=ss.length)(h:Ord ss)(h1:∀ i (h:i<ss.length),k<=i->x.toList<ss[i].toList)(h2:∀ i (h:i<ss.length),i+1=k->ss[i].toList<=x.toList):Ord (ss.take k++[x]++ss.drop k):=by
 have ht:∀ a∈ss.take k,a.toList<=x.toList:=by
  intro a ha;obtain⟨i,hi,rfl⟩:=List.mem_take_iff_getElem.1 ha;have hi:=Nat.lt_min.1 hi
  by_cases e:i+1=k
  ·exact h2 i hi.2 e
  ·have h3:=h2 (k-1) (by omega) (by omega);exact List.le_trans (List.pairwise_iff_getElem.1 h i (k-1) hi.2 (by omega) (by omega)) h3
 have hd:∀ a∈ss.drop k,x.toList<=a.toList:=by
  intro a ha;obtain⟨i,hi,rfl⟩:=List.getElem_of_mem ha;rw[List.length_drop]at hi;rw[List.getElem_drop];exact List.le_of_lt (h1 (k+i) (by omega) (by omega))
 unfold Ord at h ⊢;rw[List.append_assoc,List.pairwise_append];have h':=h;rw[<- List.take_append_drop k ss,List.pairwise_append]at h';refine⟨h'.1,List.pairwise_append.2 ⟨List.pairwise_singleton _ _,h'.2.1,fun a ha b hb=>?_⟩,fun a ha b hb=>?_⟩
 ·rw[List.mem_singleton.1 ha];exact hd b hb
 ·rcases List.mem_append.1 hb with hb | hb
  ·rw[List.mem_singleton.1 hb];exact ht a ha
  ·exact h'.2.2 a ha b hb
theorem yabi(ss:List ByteArray)(x:ByteArray)(k:Nat):(ss.take k++[x]++ss.drop k).Perm (ss++[x]):=by
 rw[List.append_assoc];refine List.Perm.trans (List.Perm.append_left _ List.perm_append_comm) ?_;rw[<- List.append_assoc,List.take_append_drop]
def zbq(ps:List Den)(d:Int):List ByteArray:=(ps.filter fun x=>decide (¬ x.child<0/\x.dir=d)).map Den.name
theorem yacz{ps:List Den}{d:Int}{k:Nat}(h:k<ps.length):zbq (ps.take (k+1)) d=if ¬ ps[k].child<0/\ps[k].dir=d then zbq (ps.take k) d++[ps[k].name]else zbq (ps.take k) d:=by
 unfold zbq;rw[List.take_succ_eq_append_getElem h,List.filter_append,List.map_append]
 by_cases c:¬ ps[k].child<0/\ps[k].dir=d
 ·rw[if_pos c];simp only[List.filter_cons,decide_eq_true c,if_true,List.filter_nil,List.map_cons,List.map_nil]
 ·rw[if_neg c];simp only[List.filter_cons,decide_eq_false c,List.filter_nil];simp
def zfp(ss:List ByteArray):List ByteArray:=((ss.map fun s=>s.data.toList).mergeSort fun x y=>decide (x<=y)).map fun l=>⟨l.toArray⟩
theorem zqb(ss:List ByteArray):(zfp ss).length=ss.length:=by unfold zfp;rw[List.length_map,List.length_mergeSort,List.length_map]
theorem yacv{ss l:List ByteArray}(h:Ord ss)(hp:ss.Perm l):ss=zfp l:=by
 have tr:∀ a b c:List UInt8,decide (a<=b)=true->decide (b<=c)=true->decide (a<=c)=true:=fun a b c h1 h2=>by simp only[decide_eq_true_eq]at *;exact List.le_trans h1 h2
 have tot:∀ a b:List UInt8,(decide (a<=b)||decide (b<=a))=true:=fun a b=>by simp only[Bool.or_eq_true,decide_eq_true_eq];exact List.le_total a b
 have e:ss.map (fun s=>s.data.toList)=(l.map fun s=>s.data.toList).mergeSort fun x y=>decide (x<=y):=by
  refine List.Perm.eq_of_pairwise (le:=fun a b=>decide (a<=b)=true) (fun a b _ _ h1 h2=>?_) ?_ (List.pairwise_mergeSort tr tot _) ((hp.map _).trans (List.mergeSort_perm _ _).symm)
  ·simp only[decide_eq_true_eq]at h1 h2;exact List.le_antisymm h1 h2
  ·rw[List.pairwise_map];refine List.Pairwise.imp (fun {a b} h=>?_) h;rw[Lib.toList_data,Lib.toList_data]at h;exact decide_eq_true h
 unfold zfp;rw[<- e,List.map_map];rw[show((fun l:List UInt8=>(⟨l.toArray⟩:ByteArray)) ∘ fun s:ByteArray=>s.data.toList)=id from funext fun s=>by simp];simp
end Go.Proofs.YtogcbbkhnpmgeaaGreatDoor
