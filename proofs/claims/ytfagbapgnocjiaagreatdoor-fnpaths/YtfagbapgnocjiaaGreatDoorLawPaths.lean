/- All paths lead somewhere, and to where their parents tell: the walk of the law. -/
import Derived.Test.YtfagbapgnocjiaaGreatDoorZBO
import Derived.Test.YtfagbapgnocjiaaGreatDoorZBP
set_option maxRecDepth 100000
set_option maxHeartbeats 32000000
namespace Go.Proofs.YtfagbapgnocjiaaGreatDoor
open Go.RowKit
theorem yaqn{ws es:List Int}{ns:List Ino}{ds:List Den}(h:Idle ws es ns ds):(∀ k (h:k<ns.length),ns[k].R)/\∀ k (h:k<ds.length),ds[k].name.size<=maxLen:=by
 have q:=yake h.pm 16;have r:=zxu (zdv ws []) 24;rw[show zbq (zdv ws []) 16=ns from h.wi.inos]at q;rw[show zby (zdv ws []) 24=ds from h.wi.dens]at r;exact⟨q,r⟩
theorem yapj{ws:List Ino}{ps:List Den}(h:zbo ws ps=true):lkR ws ps ⟨#[47]⟩=(0,0):=by
 obtain⟨a,b⟩:=zqj (s:=⟨#[47]⟩) (by kernel_rfl);unfold lkR lkI;rw[if_neg (by decide),if_pos h,if_pos a,b];rfl
def fndP(l:List ByteArray)(x:ByteArray)(j:Nat):Bool:=(l.take j).any fun y=>y.toList == x.toList
theorem yafa{l:List ByteArray}{x:ByteArray}{j:Nat}(h:j<l.length):fndP l x (j+1)=(fndP l x j||l[j].toList == x.toList):=by
 unfold fndP;rw[List.take_succ_eq_append_getElem h,List.any_append];simp
theorem yalb{l:List ByteArray}{x:ByteArray}(h:x∈l):fndP l x l.length=true:=by
 unfold fndP;rw[List.take_length,List.any_eq_true];exact⟨x,h,by simp⟩
theorem yaoy(ws:List Ino)(ps:List Den)(d:Int):(eoL ws ps d).length<=ps.length:=by
 unfold eoL
 split
 ·rw[zex];exact zte ps d
 ·simp
theorem yaub(xs:List ByteArray)(x:ByteArray)(h:xs.length<(xs++[x]).length):(xs++[x])[xs.length]=x:=by simp
theorem zyj(SORT:zql)(vA:Value)(cs:List Int)(w:World)(hA:RdB w vA cs)(hT:TS w)(hE:ED w)(hF:FD w) :
  zC 3 #[vA] w fun e w'=>e=.returned (.bool true)/\zB w w':=by
 obtain⟨aA,cA,rfl,_⟩:=hA.shape;have HA:=zaa hA;have GT:=zaa (And.intro hT (And.intro hE hF));clear hA hT hE hF
 by_cases c1:1048576<cs.length
 ·go_enter Tryz.func3,Tryz.ntmps3;go_wp2;go_ret;exact⟨rfl,zR⟩
 go_enter Tryz.func3,Tryz.ntmps3;go_wp2_with fail;refine(zxe _ cs w HA.o (by omega)).mono ?_;rintro e w1 ⟨v1,ws,es,ns,ds,rfl,hi,hr1,hb1⟩;have R1:=zaa hr1;obtain⟨vI,vD,rfl,h1,h2⟩:=hr1;obtain⟨l16,l24,_⟩:=zao hi.img;have L16:=zaa l16;have L24:=zaa l24;have IM:=zaa hi.img;obtain⟨aW,cW,hvI,_,hcW⟩:=h1.shape;obtain⟨aP,cP,hvD,_,_⟩:=h2.shape;subst hvI;subst hvD;obtain⟨bW,oW,rfl,hblW,hcellW⟩:=hcW (by omega)
 have KD:Hid (∀ k (h:k<16),∀ w',zB w1 w'->w'.cell? ⟨bW,oW+k*11,none⟩=some (.I (zag ns (k:Int)))):=fun k h w' hb=>by
  have hk:k<ns.length:=by omega
  obtain⟨a0,-⟩:=hcellW k hk;rw[zbc hk];exact(hb.cell (p:=⟨bW,oW+k*11,none⟩) hblW).trans a0
 obtain⟨W1,hW1⟩:=zE (w1.alloc (.cells #[.slice (some ⟨bW,oW,none⟩) ns.length cW,.slice aP ds.length cP] 26))
 have A1:Hid (zB w1 W1):=by rw[hW1];exact zR.alloc zL _
 have B1:=zaa (zab hb1 A1.o hb1.size)
 have M1:Hid (W1.heap[w1.heap.size]?=some (.cells #[.slice (some ⟨bW,oW,none⟩) ns.length cW,.slice aP ds.length cP] 26 (0,0))):=by rw[hW1];exact zai rfl
 have R2:=zaa (R1.o.below A1.o);have GR:=zaa (yaqn hi)
 have KW:Hid (∀ k (h:k<16),∀ w',zB W1 w'->w'.cell? ⟨bW,oW+k*11,none⟩=some (.I (zag ns (k:Int)))):=fun k h w' hb=>KD.o k h w' (zab A1.o hb A1.o.size)
 clear l16 l24 hi hb1 R1 h1 h2 hcW hcellW hblW KD;go_upto_region 4 with fail;rw[<- hW1]
 obtain⟨mb,hmb⟩:=zE w1.heap.size
 rw[<- hmb]at M1;rw[<- hmb];clear hW1 hmb A1 c1
 have MB:Hid (∀ w',zB W1 w'->w'.cell? ⟨mb,0,none⟩=some (.slice (some ⟨bW,oW,none⟩) ns.length cW)/\w'.cell? ⟨mb,1,none⟩=some (.slice aP ds.length cP)):=fun w' hb=>by
  have q:=(hb.block _ (Array.getElem?_eq_some_iff.1 M1.o).1).trans M1.o;obtain⟨x0,x1,-,-⟩:=zad q;exact⟨x0,x1⟩
 have GW:Hid (TS W1/\ED W1/\FD W1):=⟨GT.o.1.below B1.o,GT.o.2.1.below B1.o,GT.o.2.2.below B1.o⟩
 have J1:Hid (zB W1 W1):=zR
 have L16':ns.length<=1048576:=by have:=L16.o;omega
 have L24':ds.length<=1048576:=by have:=L24.o;omega
 have KP:=zaa (fun w' (hb:zB W1 w')=>zos SORT _ ns ds w' (R2.o.below hb) L16' L24' (GW.o.1.below hb) (GW.o.2.1.below hb) (GW.o.2.2.below hb) GR.o.1 GR.o.2);have KS:=zaa (fun w' (hb:zB W1 w')=>zne _ ns ds w' (R2.o.below hb) L16' L24' GR.o.1 GR.o.2);have KL:=zaa (fun s w' (hb:zB W1 w')=>zox _ ns ds s w' (R2.o.below hb) L16' L24' (GW.o.1.below hb) (GW.o.2.1.below hb) (GW.o.2.2.below hb) GR.o.1 GR.o.2);have KA:=zaa (fun s w' (hb:zB W1 w')=>zpb _ ns ds s w' (R2.o.below hb) L16' L24' (GW.o.1.below hb) (GW.o.2.1.below hb) (GW.o.2.2.below hb) GR.o.1 GR.o.2);have KE:=zaa (fun d w' (hb:zB W1 w')=>zjs _ ns ds d w' (R2.o.below hb) L16' L24' (GW.o.1.below hb) (GW.o.2.1.below hb) (GW.o.2.2.below hb) GR.o.1 GR.o.2);have KB:=zaa (fun a b w' (hb:zB W1 w')=>zol _ ns ds a b w' (R2.o.below hb) L16' L24' (GW.o.1.below hb) (GW.o.2.1.below hb) (GW.o.2.2.below hb) GR.o.1 GR.o.2);have PO:poC ns ds=0:=if_pos IM.o;have PW:=zaa (fun s (hs:s∈poL ns ds) (c:spC s=0)=>yali IM.o hs c)
 have PL:(poL ns ds).length<=24:=by
  unfold poL;rw[if_pos IM.o];exact zrl IM.o 16 0 0 ⟨#[]⟩ rfl
 have PL':=zaa PL;have EL24:=zaa (fun d=>Nat.le_trans (yaoy ns ds d) L24');have LR:=zaa (yapj IM.o);rw[PO]at KP KS;clear PO M1 GW GT HA R2 GR;generalize poL ns ds=L at *;obtain⟨x0,x1⟩:=MB.o _ J1.o;go_wp2_with fail;refine(KP.o _ J1.o).mono ?_;rintro e w2 ⟨v2,rfl,hr2,hb2⟩;have J2:=zaa (zab J1.o hb2 J1.o.size);have RL2:=zaa hr2.rd;clear x0 x1 hr2 hb2 KP J1;obtain⟨x0,x1⟩:=MB.o _ J2.o;go_wp2_with fail;refine(KS.o _ J2.o).mono ?_;rintro e w3 ⟨v3,rfl,hr3,hb3⟩;have J3:=zaa (zab J2.o hb3 J2.o.size);have RL3:Hid (RdT w3 v2 L):=Rd.below RL2.o hb3;have RS3:Hid (RdT w3 v3 L):=hr3.rd;clear x0 x1 hr3 hb3 KS J2 RL2;obtain⟨x0,x1⟩:=MB.o _ J3.o;go_wp2_with fail;refine(KL.o ⟨#[47]⟩ _ J3.o).mono ?_;rw[LR.o];rintro e w4 ⟨rfl,hb4⟩;have J4:=zaa (zab J3.o hb4 J3.o.size);have RL4:Hid (RdT w4 v2 L):=Rd.below RL3.o hb4;have RS4:Hid (RdT w4 v3 L):=Rd.below RS3.o hb4;clear x0 x1 hb4 J3 RL3 RS3 LR;obtain⟨aL,cL,rfl,_,hcL⟩:=RdT.shape RL4.o;obtain⟨aS,cS,rfl,_,_⟩:=RdT.shape RS4.o;go_wp2_with fail;refine(zow _ _ L w4 RL4.o RS4.o (by have:=PL'.o;omega)).mono ?_;rintro e w5 ⟨rfl,hb5⟩;have J5:=zaa (zab J4.o hb5 J4.o.size)
 have CL:Hid (∀ k (h:k<L.length),∃ b o,aL=some ⟨b,o,none⟩/\∀ w',zB w5 w'->w'.cell? ⟨b,o+k,none⟩=some (.string L[k])):=fun k h=>by
  obtain⟨b,o,e,hl,hc⟩:=hcL (by omega);exact⟨b,o,e,fun w' hb=>((zab hb5 hb hb5.size).cell (p:=⟨b,o+k,none⟩) hl).trans (hc k h)⟩
 clear hb5 J4 RL4 RS4 hcL;go_wp2_with fail
 go_loopw [10] (fun vi wr=>∃ i:Nat,i<=L.length/\vi=.I (i:Int)/\Hid (zB w5 wr)) (fun vi _=>L.length-(intOf vi).toNat)
 case atStart=>exact⟨0,Nat.zero_le _,rfl,zR⟩
 case round =>
  obtain⟨i,hi,rfl,JX⟩:=hrel;have B5:=zaa (zab B1.o J5.o B1.o.size)
  by_cases ci:i<L.length
  case neg =>
   have ci':¬ (i:Int)<(L.length:Int):=by omega
   have BX:=zaa (zab B5.o JX.o B5.o.size);go_wp2;go_ret;exact⟨rfl,BX.o⟩
  have ci':(i:Int)<(L.length:Int):=by omega
  have i0:(0:Int)<=(i:Int):=by omega
  obtain⟨bL,oL,rfl,hc⟩:=CL.o i ci;have WY:=zaa (PW.o L[i] (List.getElem_mem ci));have CI:=zaa hc;clear hc;generalize L[i]=s at *;have y0:=CI.o _ JX.o;go_wp2_with fail;refine(zor s _).mono ?_;rintro e w6 ⟨rfl,hb6⟩;have J6:=zaa (zab JX.o hb6 JX.o.size);clear y0 hb6
  by_cases cp:spC s=0
  case neg =>
   have d0:(spC s == 0)=false:=by rw[beq_eq_false_iff_ne];exact cp
   clear cp;go_wp2
   go_roundw
   case rel=>exact⟨i+1,by omega,by go_num,J6⟩
   case measure=>simp[intOf];omega
  obtain⟨xs,x,z,c,Y⟩:=WY.o cp
  have d0:(spC s == 0)=true:=by rw[beq_iff_eq];exact cp
  have eSP:=zaa Y.sp;have eLK:=zaa Y.lk;have ePA:=zaa Y.pa;have eC:=zaa Y.ec;have eL:=zaa Y.el;have BN:=zaa Y.ben;obtain⟨r1,r15⟩:=Y.rng
  obtain⟨cn,rfl⟩:∃ n:Nat,c=(n:Int):=⟨c.toNat,by omega⟩
  have K7:=zaa (fun w'=>zec s w');rw[cp,eSP.o]at K7;have y0:=CI.o _ J6.o;clear Y WY cp;go_wp2_with fail;refine(K7.o _).mono ?_;rintro e w7 ⟨v7,rfl,hr7,hb7⟩;have J7:=zaa (zab J6.o hb7 J6.o.size);have RX:=zaa hr7.rd
  have NX:(xs++[x]).length<=6:=by rw[<- eSP.o];exact yaob s
  clear y0 hr7 hb7 J6 K7 eSP;obtain⟨aX,cX,rfl,_,hcX⟩:=RdT.shape RX.o
  have lx:(xs++[x]).length=xs.length+1:=by rw[List.length_append];rfl
  obtain⟨bX,oX,rfl,hblX,hcellX⟩:=hcX (by omega);have CX:=zaa (fun w' (hb:zB w7 w')=>(hb.cell (p:=⟨bX,oX+xs.length,none⟩) hblX).trans ((hcellX xs.length (by omega)).trans (by rw[yaub])));rw[lx];rw[lx]at NX;clear RX hcX hblX hcellX lx;generalize xs.length=m at *
  have SK:Hid (∀ w',zB w7 w'->(w'.cell? ⟨mb,0,none⟩=some (.slice (some ⟨bW,oW,none⟩) ns.length cW)/\w'.cell? ⟨mb,1,none⟩=some (.slice aP ds.length cP))/\w'.cell? ⟨bL,oL+i,none⟩=some (.string s)):=fun w' hb=>⟨MB.o _ (zab J5.o (zab J7.o hb J7.o.size) J5.o.size),CI.o _ (zab J7.o hb J7.o.size)⟩
  have JW:=zaa (zab J5.o J7.o J5.o.size);have K8:=zaa (fun w' (hb:zB w7 w')=>KL.o s w' (zab JW.o hb JW.o.size));have K9:=zaa (fun w' (hb:zB w7 w')=>KA.o s w' (zab JW.o hb JW.o.size));have K10:=zaa (fun w' (hb:zB w7 w')=>KE.o z w' (zab JW.o hb JW.o.size));have K11:=zaa (fun w' (hb:zB w7 w')=>KB.o (cn:Int) z w' (zab JW.o hb JW.o.size));have K12:=zaa (fun w' (hb:zB w7 w')=>KB.o z (cn:Int) w' (zab JW.o hb JW.o.size));have KK:=zaa (fun w' (hb:zB w7 w')=>KW.o cn (by omega) w' (zab JW.o hb JW.o.size));have EN:=EL24.o z;rw[eLK.o]at K8;rw[ePA.o]at K9;rw[eC.o]at K10;simp only at K8 K9;have FA:=zaa (yalb eL.o);clear eLK ePA eC eL;generalize eoL ns ds z=E at *;have B7:=zaa (zab B5.o J7.o B5.o.size);have H7:Hid (zB w7 w7):=zR;clear B5 JX;obtain⟨⟨x0,x1⟩,y0⟩:=SK.o _ H7.o;go_wp2_with fail
  go_region_held3 (fun w'=>(w'.cell? ⟨mb,0,none⟩=some (.slice (some ⟨bW,oW,none⟩) ns.length cW)/\w'.cell? ⟨mb,1,none⟩=some (.slice aP ds.length cP))/\w'.cell? ⟨bL,oL+i,none⟩=some (.string s))
   (exact SK.o _ (by repeat (first | exact BF.o | exact zR | refine Below.drew ?_)))
   (first
    | (go_at_call 7;refine(K8.o _ (by repeat (first | exact zR | refine Below.drew ?_))).mono ?_;rintro e w8 ⟨rfl,hb8⟩;have BF:Hid (zB w7 w8):=(by first | exact hb8 | exact zab (by repeat (first | exact zR | refine Below.drew ?_)) hb8 zL);clear hb8))
  all_goals
   have B8:=zaa BF.o;clear BF x0 x1 y0 K8 H7;obtain⟨⟨x0,x1⟩,y0⟩:=SK.o _ B8.o;go_wp2_with fail
   go_region_held3 (fun w'=>(w'.cell? ⟨mb,0,none⟩=some (.slice (some ⟨bW,oW,none⟩) ns.length cW)/\w'.cell? ⟨mb,1,none⟩=some (.slice aP ds.length cP))/\w'.cell? ⟨bL,oL+i,none⟩=some (.string s))
    (exact SK.o _ (by repeat (first | exact BF.o | exact B8.o | refine Below.drew ?_)))
    (first
     | (go_at_call 11;refine(K9.o _ (by repeat (first | exact B8.o | refine Below.drew ?_))).mono ?_;rintro e w9 ⟨rfl,hb9⟩;have BF:Hid (zB w7 w9):=zab (by repeat (first | exact B8.o | refine Below.drew ?_)) hb9 B8.o.size;clear hb9))
   all_goals
    have B9:=zaa BF.o;clear BF B8 x0 x1 y0 K9;obtain⟨⟨x0,x1⟩,-⟩:=SK.o _ B9.o;have y0:=CX.o _ B9.o
    have d1:((m:Int)+1 == 0)=false:=by rw[beq_eq_false_iff_ne];omega
    have d2:¬ (cn:Int)<1:=by omega
    have d3:¬ (16:Int)<=(cn:Int):=by omega
    go_wp2_with fail;refine(K10.o _ B9.o).mono ?_;rintro e w10 ⟨v10,rfl,hr10,hb10⟩;have B10:=zaa (zab B9.o hb10 B9.o.size);have RE:Hid (RdT w10 v10 E):=zaa hr10.rd;obtain⟨aE,cE,rfl,_,hcE⟩:=RdT.shape RE.o
    have CE:Hid (∀ k (h:k<E.length),∃ b o,aE=some ⟨b,o,none⟩/\∀ w',zB w10 w'->w'.cell? ⟨b,o+k,none⟩=some (.string E[k])):=fun k h=>by
     obtain⟨b,o,e1,hbl,hc⟩:=hcE (by omega);exact⟨b,o,e1,fun w' hb=>(hb.cell (p:=⟨b,o+k,none⟩) hbl).trans (hc k h)⟩
    clear x0 x1 y0 d1 d2 d3 hr10 hb10 RE hcE K10 B9;go_wp2_with fail
    go_loopw [20,21] (fun f j wr=>∃ k:Nat,k<=E.length/\f=.bool (fndP E x k)/\j=.I (k:Int)/\Hid (zB w10 wr)) (fun _ j _=>E.length-(intOf j).toNat)
    case atStart=>exact⟨0,Nat.zero_le _,rfl,rfl,zR⟩
    case round =>
     obtain⟨k,hk,rfl,rfl,JE⟩:=hrel
     have k0:(0:Int)<=(k:Int):=by omega
     by_cases hk':k<E.length
     case neg =>
      obtain rfl:k=E.length:=by omega
      rw[FA.o];have B11:=zaa (zab B10.o JE.o B10.o.size);have J11:=zaa (zab J7.o B11.o J7.o.size);clear hk' CE FA;obtain⟨⟨x0,x1⟩,-⟩:=SK.o _ B11.o;have y0:=KK.o _ B11.o
      have d1:(cn:Int)<(ns.length:Int):=by have:=L16.o;omega
      have d2:(0:Int)<=(cn:Int):=by omega
      by_cases q:zag ns (cn:Int)=2
      case neg =>
       have q1:(zag ns (cn:Int) == 2)=false:=by rw[beq_eq_false_iff_ne];exact q
       clear q BN K11 K12;generalize zag ns (cn:Int)=kc at *;go_wp2
       go_roundw
       case rel=>exact⟨i+1,by omega,by go_num,J11⟩
       case measure=>simp[intOf];omega
      obtain⟨⟨g1,g2⟩,g3,g4⟩:=BN.o q;rw[g1,g2]at K11;rw[g3,g4]at K12;rw[q]at y0;clear q BN g1 g2 g3 g4;go_wp2_with fail;refine(K11.o _ B11.o).mono ?_;rintro e w11 ⟨rfl,hb11⟩;have B12:=zaa (zab B11.o hb11 B11.o.size);clear x0 x1 y0 hb11 B11 J11;obtain⟨⟨x0,x1⟩,-⟩:=SK.o _ B12.o;go_wp2_with fail;refine(K12.o _ B12.o).mono ?_;rintro e w12 ⟨rfl,hb12⟩;have B13:=zaa (zab B12.o hb12 B12.o.size);have J13:=zaa (zab J7.o B13.o J7.o.size);clear x0 x1 hb12;go_wp2
      go_roundw
      case rel=>exact⟨i+1,by omega,by go_num,J13⟩
      case measure=>simp[intOf];omega
     have hk2:(k:Int)<(E.length:Int):=by omega
     obtain⟨bE,oE,rfl,hcE⟩:=CE.o k hk';have z0:=hcE _ JE.o;have FS:=zaa (yafa (x:=x) hk');clear hcE FA;generalize E[k]=y at *
     cases hf:fndP E x k with
     | true =>
      rw[hf]at FS;clear hf;go_wp2
      go_roundw
      case rel=>exact⟨k+1,by omega,by rw[FS.o];rfl,by go_num,JE⟩
      case measure=>simp[intOf];omega
     | false =>
      rw[hf]at FS;clear hf;go_wp2
      go_roundw
      case rel=>exact⟨k+1,by omega,by rw[FS.o];rfl,by go_num,JE⟩
      case measure=>simp[intOf];omega
end Go.Proofs.YtfagbapgnocjiaaGreatDoor
