import Derived.Test.YtfagbapgnocjiaaGreatDoorPiK
import Derived.Test.YtfagbapgnocjiaaGreatDoorZAN
import Derived.Test.YtfagbapgnocjiaaGreatDoorZAO
import Derived.Test.YtfagbapgnocjiaaGreatDoorImM
set_option maxRecDepth 100000
set_option maxHeartbeats 8000000
namespace Go.Proofs.YtfagbapgnocjiaaGreatDoor
open Go.RowKit
def pimB(ws:List Ino)(ps:List Den):Bool:=zgs ws ps&&(zag ws 0 == 2&&(zoz ws (zan ps)&&(zmq ((zan ps).map zhp)&&(lcB ws (zan ps)&&(dhB ws (zan ps)&&zfe (zaq ws))))))
theorem yacs{ws:List Ino}{ps:List Den}(h:zgs ws ps=true):ws.length=16/\ps.length=24/\zty ws=true/\okDs ps=true:=by
 unfold zgs at h;simp only[Bool.and_eq_true,decide_eq_true_eq]at h;exact h
theorem zxs{ps:List Den}(h:okDs ps=true):∀ k (h:k<(zan ps).length),(0<=(zan ps)[k].child/\(zan ps)[k].child<=15)/\(0<=(zan ps)[k].dir/\(zan ps)[k].dir<=15):=by
 have h:=of_decide_eq_true h;intro k hk;obtain⟨hm,hf⟩:=List.mem_filter.1 (List.getElem_mem hk);obtain⟨i,hi,e⟩:=List.getElem_of_mem hm;have o:=h i hi;rw[e]at o;have c:=zlm o (fun q=>by rw[(zmn o).2 q]at hf;cases hf);exact⟨by omega,c.2.1⟩
theorem yagz(v:Value)(ws:List Ino)(ps:List Den)(w:World)(h:RdIm w v ws ps)(hw:ws.length<=1048576)(hp:ps.length<=1048576)(hT:TS w)(hE:ED w)(hF:FD w)(hr:∀ k (h:k<ws.length),ws[k].R)(hs:∀ k (h:k<ps.length),ps[k].name.size<=maxLen) :
  zC 16 #[v] w fun e w'=>e=.returned (.bool (pimB ws ps))/\zB w w':=by
 have LP:=zaa (fun w1 (hb:zB w w1)=>zwq v ws ps w1 (h.below hb) hw hp (hT.below hb) (hE.below hb) (hF.below hb) hr hs);obtain⟨vW,vP,rfl,h1,h2⟩:=h;have RW:=zaa h1;have RP:=zaa h2;obtain⟨aW,cW,rfl,_,hcW⟩:=h1.shape;obtain⟨aP,cP,rfl,_,_⟩:=h2.shape;have BW:=zaa ((Below.refl w.heap.size w).alloc zL (.cells #[.slice aW ws.length cW,.slice aP ps.length cP] 26))
 have CA:Hid (∀ w',Below (w.alloc (.cells #[.slice aW ws.length cW,.slice aP ps.length cP] 26)).heap.size (w.alloc (.cells #[.slice aW ws.length cW,.slice aP ps.length cP] 26)) w'->w'.cell? ⟨w.heap.size,0,none⟩=some (.slice aW ws.length cW)/\w'.cell? ⟨w.heap.size,1,none⟩=some (.slice aP ps.length cP)):=fun w' hb=>by
  have:w'.heap[w.heap.size]?=some (.cells #[.slice aW ws.length cW,.slice aP ps.length cP] 26 (0,0)):=(hb.block _ (by simp)).trans (zai rfl);exact⟨(zad this).1,(zad this).2.1⟩
 obtain⟨x0,x1⟩:=CA.o _ zR;have F:=zaa hF;clear h1 h2 hT hE hF hr hs
 cases c1:zgs ws ps with
 | false =>
  have E:=zaa (show pimB ws ps=false by unfold pimB;rw[c1];rfl);rw[c1]at LP;clear c1 hcW;go_enter Tryz.func16,Tryz.ntmps16;go_wp2_with fail;refine(LP.o _ BW.o).mono ?_;rintro e w1 ⟨rfl,hb1⟩;have B1:=zaa (zab BW.o hb1 BW.o.size);clear hb1 x0 x1;go_wp2;go_ret;exact⟨zah E.o.symm,B1.o⟩
 | true =>
 obtain⟨l1,l2,o1,o2⟩:=yacs c1;have E0:=zaa (show pimB ws ps=(zag ws 0 == 2&&(zoz ws (zan ps)&&(zmq ((zan ps).map zhp)&&(lcB ws (zan ps)&&(dhB ws (zan ps)&&zfe (zaq ws)))))) by unfold pimB;rw[c1,Bool.true_and]);rw[c1]at LP;obtain⟨bW,oW,rfl,hblW,hcellW⟩:=hcW (by omega);have HK:=(hcellW 0 (by omega)).1;rw[show ws[0].kind=zag ws 0 from(zbc (i:=0) (by omega)).symm]at HK;simp only[Nat.zero_mul,Nat.add_zero]at HK
 have KK:Hid (∀ w',zB w w'->w'.cell? ⟨bW,oW,none⟩=some (.I (zag ws 0))):=fun w' hb=>(hb.cell (p:=⟨bW,oW,none⟩) hblW).trans HK
 have TR:=zaa (zxs o2)
 have tl:(zan ps).length<=24:=by have:=zoc ps;omega
 have ml:(zaq ws).length<=128:=by have:=zhi ws;omega
 have len16:(0:Int)<(ws.length:Int):=by omega
 have L1:=zaa l1;have L2:=zaa l2;have LT:=zaa (fun w1 (hb:zB w w1)=>zem (.slice aP ps.length cP) ps w1 (Rd.below RP.o hb) (by omega) (F.o.below hb));have LM:=zaa (fun w1 (hb:zB w w1)=>zkc (.slice (some ⟨bW,oW,none⟩) ws.length cW) ws w1 (Rd.below RW.o hb) (by omega));have LK:=zaa (fun v w1 (hb:zB w w1) h=>zvz (.slice (some ⟨bW,oW,none⟩) ws.length cW) v ws (zan ps) w1 (Rd.below RW.o hb) h l1 (by omega) TR.o);have LC:=zaa (fun v w1 (hb:zB w w1) h=>zle (.slice (some ⟨bW,oW,none⟩) ws.length cW) v ws (zan ps) w1 (Rd.below RW.o hb) h l1 (by omega) (fun k hk=>(TR.o k hk).1));have LH:=zaa (fun v w1 (hb:zB w w1) h=>zih (.slice (some ⟨bW,oW,none⟩) ws.length cW) v ws (zan ps) w1 (Rd.below RW.o hb) h l1 (by omega) TR.o);have LO:=zaa (fun v w1 h=>zra v (zan ps) w1 h (by omega));have LI:=zaa (fun v w1 h=>zlb v (zaq ws) w1 h (by omega));clear l1 l2 o1 o2 c1 hcW hcellW HK TR F RP RW;generalize zag ws 0=k0 at *;generalize zan ps=ts at *;generalize zaq ws=ms at *;generalize zoz ws ts=f1 at *;generalize zmq (ts.map zhp)=f2 at *;generalize lcB ws ts=f3 at *;generalize dhB ws ts=f4 at *;generalize zfe ms=f5 at *
 by_cases c2:k0=2
 case neg =>
  have q:(k0 != 2)=true:=by rw[bne_iff_ne];exact c2
  have E:=zaa (show pimB ws ps=false by rw[E0.o,show(k0 == 2)=false by rw[beq_eq_false_iff_ne];exact c2];rfl);clear c2;go_enter Tryz.func16,Tryz.ntmps16;go_wp2_with fail;refine(LP.o _ BW.o).mono ?_;rintro e w1 ⟨rfl,hb1⟩;have B1:=zaa (zab BW.o hb1 BW.o.size);clear x0 x1;obtain⟨x0,x1⟩:=CA.o _ hb1;have kk:=KK.o _ B1.o;clear hb1;go_wp2;go_ret;exact⟨zah E.o.symm,B1.o⟩
 have q:(k0 != 2)=false:=by rw[c2];rfl
 have E1:=zaa (show pimB ws ps=(f1&&(f2&&(f3&&(f4&&f5)))) by rw[E0.o,c2];rfl);clear c2 E0;go_enter Tryz.func16,Tryz.ntmps16;go_wp2_with fail;refine(LP.o _ BW.o).mono ?_;rintro e w1 ⟨rfl,hb1⟩;have B1:=zaa (zab BW.o hb1 BW.o.size);have BA:=zaa hb1;clear x0 x1 LP;obtain⟨x0,x1⟩:=CA.o _ hb1;have kk:=KK.o _ B1.o;clear hb1;go_wp2_with fail;refine(LT.o _ B1.o).mono ?_;rintro e w2 ⟨v2,rfl,hr2,hb2⟩;obtain⟨-,aT,cT,hvT,-⟩:=hr2.rd;subst hvT;have hz1:w.heap.size<=w1.heap.size:=B1.o.size;have hz2:w1.heap.size<=w2.heap.size:=hb2.size;have R2:=zaa hr2.rd;have B2:=zaa (zab B1.o hb2 hz1);have BA2:=zaa (zab BA.o hb2 BA.o.size);clear hr2 x0 x1 kk B1 BA KK LT hb2;obtain⟨x0,x1⟩:=CA.o _ BA2.o;go_wp2_with fail;refine(LK.o _ _ B2.o R2.o).mono ?_;rintro e w3 ⟨rfl,hb3⟩;have hz3:w2.heap.size<=w3.heap.size:=hb3.size;have R3:=zaa (Rd.below R2.o hb3);have B3:=zaa (zab B2.o hb3 (by omega));have BA3:=zaa (zab BA2.o hb3 (by have:=BA2.o.size;omega));clear hb3 x0 x1 R2 B2 BA2
 cases f1 with
 | false =>
  go_wp2;go_ret;exact⟨zah (by rw[E1.o];rfl),B3.o⟩
 | true =>
 go_wp2_with fail;refine(LO.o _ _ R3.o).mono ?_;rintro e w4 ⟨rfl,hb4⟩;have hz4:w3.heap.size<=w4.heap.size:=hb4.size;have R4:=zaa (Rd.below R3.o hb4);have B4:=zaa (zab B3.o hb4 (by omega));have BA4:=zaa (zab BA3.o hb4 (by have:=BA3.o.size;omega));clear hb4 R3 B3 BA3
 cases f2 with
 | false =>
  go_wp2;go_ret;exact⟨zah (by rw[E1.o];rfl),B4.o⟩
 | true =>
 obtain⟨x0,x1⟩:=CA.o _ BA4.o;go_wp2_with fail;refine(LC.o _ _ B4.o R4.o).mono ?_;rintro e w5 ⟨rfl,hb5⟩;have hz5:w4.heap.size<=w5.heap.size:=hb5.size;have R5:=zaa (Rd.below R4.o hb5);have B5:=zaa (zab B4.o hb5 (by omega));have BA5:=zaa (zab BA4.o hb5 (by have:=BA4.o.size;omega));clear hb5 x0 x1 R4 B4 BA4
 cases f3 with
 | false =>
  go_wp2;go_ret;exact⟨zah (by rw[E1.o];rfl),B5.o⟩
 | true =>
 obtain⟨x0,x1⟩:=CA.o _ BA5.o;go_wp2_with fail;refine(LH.o _ _ B5.o R5.o).mono ?_;rintro e w6 ⟨rfl,hb6⟩;have hz6:w5.heap.size<=w6.heap.size:=hb6.size;have B6:=zaa (zab B5.o hb6 (by omega));have BA6:=zaa (zab BA5.o hb6 (by have:=BA5.o.size;omega));clear hb6 x0 x1 R5 B5 BA5
 cases f4 with
 | false =>
  go_wp2;go_ret;exact⟨zah (by rw[E1.o];rfl),B6.o⟩
 | true =>
 obtain⟨x0,x1⟩:=CA.o _ BA6.o;go_wp2_with fail;refine(LM.o _ B6.o).mono ?_;rintro e w7 ⟨v7,rfl,hr7,hb7⟩;obtain⟨-,aM,cM,hvM,-⟩:=hr7.rd;subst hvM;have B7:=zaa (zab B6.o hb7 (by omega));have R7:=zaa hr7.rd;clear hb7 hr7 x0 x1 B6 BA6;go_wp2_with fail;refine(LI.o _ _ R7.o).mono ?_;rintro e w' ⟨rfl,hw'⟩;subst w';go_wp2;go_ret;exact⟨zah (by rw[E1.o];rfl),B7.o⟩
def zig(ws:List Ino):Bool:=zfe (zbm (zaq ws) 1)&&zfe (zbm (zaq ws) 2)
def zbo(ws:List Ino)(ps:List Den):Bool:=decide (ws.length=16)&&(decide (ps.length=24)&&(zag ws 0 == 2&&(zty ws&&(zhn ws ps&&(zfz ws ps&&zig ws)))))
theorem zfk{x:Ino}(h:zdp x=true):(∀ z∈x.map,zel z=true)/\(x.kind=2->x.links=1):=by
 unfold zdp at h;simp only[Bool.and_eq_true,decide_eq_true_eq]at h;obtain⟨_,_,_,d,f⟩:=h;refine⟨fun z hz=>?_,fun k=>?_⟩
 ·obtain⟨i,hi,rfl⟩:=List.getElem_of_mem hz;have:=zib d i hi;rw[List.getD_eq_getElem?_getD,List.getElem?_eq_getElem hi]at this;unfold zpz at this;simp only[Option.getD_some,Bool.and_eq_true]at this;exact this.1
 ·unfold zek at f;rw[if_neg (by omega),if_pos k]at f;simp only[Bool.and_eq_true,beq_iff_eq]at f;exact f.2
theorem zei{z:Int}(h:zel z=true):0<=z/\z<=1048576:=by
 unfold zel zgt at h;simp only[Bool.and_eq_true,decide_eq_true_eq]at h;omega
theorem ztl{ws:List Ino}(h:zty ws=true):∀ i (h:i<ws.length),∀ z∈ws[i].map,zel z=true:=fun i hi=>(zfk ((of_decide_eq_true h:∀ k (h:k<ws.length),zdp ws[k]=true) i hi)).1
theorem yaqm(ws:List Ino)(ps:List Den):pimB ws ps=zbo ws ps:=by
 unfold pimB zbo zgs
 by_cases l1:ws.length=16
 case neg=>simp[l1]
 by_cases l2:ps.length=24
 case neg=>simp[l2]
 rw[decide_eq_true l1,decide_eq_true l2,Bool.true_and,Bool.true_and,Bool.true_and,Bool.true_and]
 cases o1:zty ws
 ·simp
 cases o2:okDs ps
 ·have:zhn ws ps=false:=by
   rw[Bool.eq_false_iff];intro e;rw[yadv e]at o2
   cases o2
  rw[this];simp
 rw[yaol o2]
 cases f1:zoz ws (zan ps)
 ·simp
 cases f2:zmq ((zan ps).map zhp)
 ·simp
 rw[yani l1 (fun i hi=>(zfk ((of_decide_eq_true o1:∀ k (h:k<ws.length),zdp ws[k]=true) i hi)).2) o2 f1];have s1:zig ws=zfe (zaq ws):=znf (fun e he=>(zny (ztl o1) e he).2);rw[s1];simp[Bool.and_assoc]
theorem zrc(v:Value)(ws:List Ino)(ps:List Den)(w:World)(h:RdIm w v ws ps)(hn:ws.length=16)(hr:∀ k (h:k<ws.length),∀ z∈ws[k].map,0<=z/\z<=1048576) :
  zC 48 #[v] w fun e w'=>e=.returned (.bool (zig ws))/\zB w w':=by
 have HR:=zaa h;have LU:=zaa (fun t w1 h=>znk v ws ps t w1 h (by omega) hr);have UL:=zaa (fun t=>show(zbm (zaq ws) t).length<=128 by have:=zkj (zaq ws) t;have:=zhi ws;omega);obtain⟨vW,vP,rfl,h1,h2⟩:=h;obtain⟨aW,cW,rfl,_,_⟩:=h1.shape;obtain⟨aP,cP,rfl,_,_⟩:=h2.shape;clear h1 h2 hr hn
 obtain⟨W,hW⟩:=zE (w.alloc (.cells #[.slice aW ws.length cW,.slice aP ps.length cP] 26))
 have CA:Hid (∀ w',zB W w'->w'.cell? ⟨w.heap.size,0,none⟩=some (.slice aW ws.length cW)/\w'.cell? ⟨w.heap.size,1,none⟩=some (.slice aP ps.length cP)):=fun w' hb=>by
  have:w'.heap[w.heap.size]?=some (.cells #[.slice aW ws.length cW,.slice aP ps.length cP] 26 (0,0)):=(hb.block _ (by rw[hW];simp)).trans (by rw[hW];exact zai rfl);exact⟨(zad this).1,(zad this).2.1⟩
 have BW:Hid (zB w W):=by rw[hW];exact zR.alloc zL _
 have hz:w.heap.size<=W.heap.size:=BW.o.size;have SG:=zaa (show zig ws=(zfe (zbm (zaq ws) 1)&&zfe (zbm (zaq ws) 2))from rfl);generalize zbm (zaq ws)=uf at *;go_enter Tryz.func48,Tryz.ntmps48;go_wp2;rw[<- hW];clear hW
 go_loopw [3] (fun i wr=>∃ t:Nat,(1<=t/\t<=3)/\i=.I t/\Hid (zB W wr/\∀ s:Nat,1<=s->s<t->zfe (uf (s:Int))=true)) (fun i _=>3-(intOf i).toNat)
 case atStart=>exact⟨1,by omega,rfl,zR,fun s h a=>absurd a (by omega)⟩
 case round =>
  obtain⟨t,ht,rfl,J⟩:=hrel;have J1:=zaa J.o.1;have JW:=zaa (zab BW.o J.o.1 hz);obtain⟨x0,x1⟩:=CA.o wr J.o.1
  by_cases hlt:t<=2
  ·have t2:(t:Int)<=2:=by omega
   have t1:(0:Int)<=(t:Int):=by omega
   have JS:=zaa J.o.2
   have NO:Hid (zfe (uf (t:Int))=false->zig ws=false):=fun q=>by
    rw[SG.o]
    rcases(show t=1\/t=2 by omega)with rfl|rfl
    ·rw[show((1:Nat):Int)=1 from rfl]at q;rw[q];rfl
    ·rw[show((2:Nat):Int)=2 from rfl]at q;rw[q,Bool.and_false]
   clear J;go_wp2_with fail;refine(LU.o _ _ (HR.o.below JW.o)).mono ?_;rintro e w1 ⟨v1,rfl,hr1,hb1⟩;obtain⟨-,aL,cL,hvL,hcap,-⟩:=hr1.rd;have hcap1:=hcap.1;subst hvL;have R1:Hid (RdI w1 (.slice aL (uf (t:Int)).length cL) (uf (t:Int))):=hr1.rd;have B1:=zaa (zab J1.o hb1 J1.o.size);have B2:=zaa (zab BW.o B1.o hz);have ul:=UL.o (t:Int)
   have JN:Hid (zfe (uf (t:Int))=true->∀ s:Nat,1<=s->s<t+1->zfe (uf (s:Int))=true):=fun q s h a=>by
    by_cases e:s=t
    ·subst e;exact q
    ·exact JS.o s h (by omega)
   clear hr1 hb1 x0 x1 hcap JS;generalize uf (t:Int)=zs at *;obtain⟨aZ,cZ,e,_,hcZ⟩:=R1.o.shape;have HZ:=zaa hcZ
   obtain⟨rfl,rfl⟩:aZ=aL/\cZ=cL:=by cases e;exact⟨rfl,rfl⟩
   clear e hcZ;go_wp2
   go_loopw [5] (fun i wq=>∃ k:Nat,k<=zs.length/\i=.I k/\Hid (zB w1 wq/\∀ j (h:j<zs.length),j<k->zgv (zs.take j) zs[j]=false)) (fun i _=>zs.length-(intOf i).toNat)
   case atStart=>exact⟨0,by omega,rfl,zR,fun j h a=>absurd a (by omega)⟩
   case round =>
    obtain⟨k,hk,rfl,H⟩:=hrel
    have k0:(0:Int)<=(k:Int):=by omega
    have H1:=zaa H.o.1;have HB:=zaa (zab B1.o H.o.1 B1.o.size);have HF:=zaa (zab B2.o H.o.1 B2.o.size)
    by_cases hlk:k<zs.length
    ·obtain⟨b,o,rfl,hbl,hcell⟩:=HZ.o (by omega);have hck:=(H1.o.cell (p:=⟨b,o+k,none⟩) hbl).trans (hcell k hlk)
     have k1:(k:Int)<(zs.length:Int):=by omega
     have k2:(k:Int)<=(cZ:Int):=by omega
     have hblr:b<wr.heap.size:=by have:=H1.o.size;omega
     have RT:=zaa (RdI.take (Rd.below R1.o H1.o) hk);have LT:=zaa (show(zs.take k).length<=1048576 by rw[List.length_take];omega);clear hcell
     cases q:zgv (zs.take k) zs[k] with
     | false =>
      have H':Hid (∀ j (h:j<zs.length),j<k+1->zgv (zs.take j) zs[j]=false):=fun j h a=>by
       by_cases e:j=k
       ·subst e;exact q
       ·exact H.o.2 j h (by omega)
      have Q:=zaa q;clear q H;generalize zs[k]=z at hck Q;go_wp2
      have RB:Hid (∀ w',zB wr w'->RdI w' (.slice (some ⟨b,o,none⟩) k cZ) (zs.take k)):=fun w' hb=>Rd.below RT.o hb
      have SK:Hid (∀ w',zB wr w'->w'.cell? ⟨b,o+k,none⟩=some (.I z)):=fun w' hb=>(hb.cell (p:=⟨b,o+k,none⟩) hblr).trans hck
      go_region_held3 (fun w'=>w'.cell? ⟨b,o+k,none⟩=some (.I z))
       (exact SK.o _ (by repeat (first | exact zR | refine Below.drew ?_)))
       (first
        | (go_at_call 93;refine(zju _ (zs.take k) z _ (RB.o _ (by repeat (first | exact zR | refine Below.drew ?_))) LT.o).mono ?_;rw[Q.o];rintro e w' ⟨rfl,hw'⟩;subst w'))
      all_goals
       clear SK RB hck;go_wp2
       go_roundw
       case rel=>exact⟨k+1,by omega,by go_num,(by repeat (first | exact H1.o | refine Below.drew ?_)),H'.o⟩
       case measure=>simp[intOf];omega
     | true =>
      have E:=zaa (NO.o (zva hlk q));have Q:=zaa q;clear q H;generalize zs[k]=z at hck Q;go_wp2
      have RB:Hid (∀ w',zB wr w'->RdI w' (.slice (some ⟨b,o,none⟩) k cZ) (zs.take k)):=fun w' hb=>Rd.below RT.o hb
      have SK:Hid (∀ w',zB wr w'->w'.cell? ⟨b,o+k,none⟩=some (.I z)):=fun w' hb=>(hb.cell (p:=⟨b,o+k,none⟩) hblr).trans hck
      go_region_held3 (fun w'=>w'.cell? ⟨b,o+k,none⟩=some (.I z))
       (exact SK.o _ (by repeat (first | exact zR | refine Below.drew ?_)))
       (first
        | (go_at_call 93;refine(zju _ (zs.take k) z _ (RB.o _ (by repeat (first | exact zR | refine Below.drew ?_))) LT.o).mono ?_;rw[Q.o];rintro e w' ⟨rfl,hw'⟩;subst w'))
      all_goals
       clear SK RB hck;go_wp2;go_ret;exact⟨zah E.o.symm,(by repeat (first | exact HF.o | refine Below.drew ?_))⟩
    ·have E:=zaa (JN.o (zzi (fun j h=>H.o.2 j h (by omega))));clear H;go_wp2
     go_roundw
     case rel=>exact⟨t+1,by omega,by go_num,HB.o,E.o⟩
     case measure=>simp[intOf];omega
  ·obtain rfl:t=3:=by omega
   have E:=zaa (show zig ws=true by
    have e1:zfe (uf 1)=true:=J.o.2 1 (by omega) (by omega);have e2:zfe (uf 2)=true:=J.o.2 2 (by omega) (by omega)
    rw[SG.o,e1,e2];rfl)
   clear J;go_wp2;go_ret;exact⟨zah E.o.symm,JW.o⟩
theorem zdo(v:Value)(ws:List Ino)(ps:List Den)(w:World)(h:RdIm w v ws ps)(hw:ws.length<=1048576)(hp:ps.length<=1048576)(hT:TS w)(hE:ED w)(hF:FD w)(hr:∀ k (h:k<ws.length),ws[k].R)(hs:∀ k (h:k<ps.length),ps[k].name.size<=maxLen) :
  zC 16 #[v] w fun e w'=>e=.returned (.bool (zbo ws ps))/\zB w w':=by
 rw[<- yaqm];exact yagz v ws ps w h hw hp hT hE hF hr hs
theorem zmd(v:Value)(ws:List Ino)(ps:List Den)(w:World)(h:RdIm w v ws ps)(hw:ws.length<=1048576)(hp:ps.length<=1048576)(hr:∀ k (h:k<ws.length),ws[k].R)(hs:∀ k (h:k<ps.length),ps[k].name.size<=maxLen) :
  zC 22 #[v] w fun e w'=>e=.returned (.bool (zbo ws ps))/\zB w w':=by
 have HRD:=zaa h;have HR:=zaa hr;have L1:=zaa (fun w1 h=>zud v ws ps w1 h hw hp);have L2:=zaa (fun w1 h (hl:ws.length=16)=>zov v ws ps w1 h hl hp hs);have L3:=zaa (fun w1 h (hl:ws.length=16) (o:zty ws=true)=>zrc v ws ps w1 h hl (fun k hk z hz=>zei (ztl o k hk z hz)));obtain⟨vW,vP,rfl,h1,h2⟩:=h;obtain⟨aW,cW,rfl,_,hcW⟩:=h1.shape;obtain⟨aP,cP,rfl,_,_⟩:=h2.shape;have HW:=zaa hcW;clear h1 h2 hr hs hcW
 have CA:Hid (∀ w',Below (w.alloc (.cells #[.slice aW ws.length cW,.slice aP ps.length cP] 26)).heap.size (w.alloc (.cells #[.slice aW ws.length cW,.slice aP ps.length cP] 26)) w'->w'.cell? ⟨w.heap.size,0,none⟩=some (.slice aW ws.length cW)/\w'.cell? ⟨w.heap.size,1,none⟩=some (.slice aP ps.length cP)):=fun w' hb=>by
  have:w'.heap[w.heap.size]?=some (.cells #[.slice aW ws.length cW,.slice aP ps.length cP] 26 (0,0)):=(hb.block _ (by simp)).trans (zai rfl);exact⟨(zad this).1,(zad this).2.1⟩
 have BW:Hid (zB w (w.alloc (.cells #[.slice aW ws.length cW,.slice aP ps.length cP] 26))):=zR.alloc zL _;obtain⟨x0,x1⟩:=CA.o _ zR;have EI:=zaa (show zbo ws ps=(decide (ws.length=16)&&(decide (ps.length=24)&&(zag ws 0 == 2&&(zty ws&&(zhn ws ps&&(zfz ws ps&&zig ws))))))from rfl)
 by_cases c1:ws.length=16
 case neg =>
  have E:=zaa (show zbo ws ps=false by rw[EI.o,decide_eq_false c1];rfl)
  have q:((ws.length:Int) != 16)=true:=by rw[bne_iff_ne];omega
  clear c1;go_enter Tryz.func22,Tryz.ntmps22;go_wp2;go_ret;exact⟨zah E.o.symm,BW.o⟩
 have q:((ws.length:Int) != 16)=false:=by rw[c1];rfl
 by_cases c2:ps.length=24
 case neg =>
  have E:=zaa (show zbo ws ps=false by rw[EI.o,decide_eq_false c2,Bool.false_and,Bool.and_false])
  have q2:((ps.length:Int) != 24)=true:=by rw[bne_iff_ne];omega
  clear c1 c2;go_enter Tryz.func22,Tryz.ntmps22;go_wp2;go_ret;exact⟨zah E.o.symm,BW.o⟩
 have q2:((ps.length:Int) != 24)=false:=by rw[c2];rfl
 obtain⟨bW,oW,rfl,hblW,hcellW⟩:=HW.o (by omega);have HK:=(hcellW 0 (by omega)).1;rw[show ws[0].kind=zag ws 0 from(zbc (i:=0) (by omega)).symm]at HK;simp only[Nat.zero_mul,Nat.add_zero]at HK;have kk:=(BW.o.cell (p:=⟨bW,oW,none⟩) hblW).trans HK
 have len16:(0:Int)<(ws.length:Int):=by omega
 have C1:=zaa c1;have E1:=zaa (show zbo ws ps=(zag ws 0 == 2&&(zty ws&&(zhn ws ps&&(zfz ws ps&&zig ws)))) by rw[EI.o,decide_eq_true c1,decide_eq_true c2];rfl);have HC:=zaa hcellW;clear c1 c2 EI HK hcellW HW;generalize zag ws 0=k0 at *
 by_cases c3:k0=2
 case neg =>
  have q3:(k0 != 2)=true:=by rw[bne_iff_ne];exact c3
  have E:=zaa (show zbo ws ps=false by rw[E1.o,show(k0 == 2)=false by rw[beq_eq_false_iff_ne];exact c3];rfl);clear c3;go_enter Tryz.func22,Tryz.ntmps22;go_wp2;go_ret;exact⟨zah E.o.symm,BW.o⟩
 have q3:(k0 != 2)=false:=by rw[c3];rfl
 have E2:=zaa (show zbo ws ps=(zty ws&&(zhn ws ps&&(zfz ws ps&&zig ws))) by rw[E1.o,c3];rfl);clear c3 E1;go_enter Tryz.func22,Tryz.ntmps22;go_wp2;clear x0 x1 kk q q2 q3;generalize w.alloc (.cells #[.slice (some ⟨bW,oW,none⟩) ws.length cW,.slice aP ps.length cP] 26)=W at *;have hz:w.heap.size<=W.heap.size:=BW.o.size
 go_loopw [3] (fun i wr=>∃ k:Nat,k<=ws.length/\i=.I k/\Hid (zB W wr/\∀ j (h:j<ws.length),j<k->zdp ws[j]=true)) (fun i _=>ws.length-(intOf i).toNat)
 case atStart=>exact⟨0,by omega,rfl,zR,fun j h a=>absurd a (by omega)⟩
 case round =>
  obtain⟨k,hk,rfl,H⟩:=hrel;have H1:=zaa H.o.1;have HF:=zaa (zab BW.o H.o.1 hz);obtain⟨x0,x1⟩:=CA.o wr H.o.1
  by_cases hlt:k<ws.length
  ·obtain⟨a0,a1,a2,a3,a4,a5,a6,a7,a8,a9,a10⟩:=HC.o k hlt;have d0:=(HF.o.cell (p:=⟨bW,oW+k*11,none⟩) hblW).trans a0;have d1:=(HF.o.cell (p:=⟨bW,oW+k*11+1,none⟩) hblW).trans a1;have d2:=(HF.o.cell (p:=⟨bW,oW+k*11+2,none⟩) hblW).trans a2;have d3:=(HF.o.cell (p:=⟨bW,oW+k*11+3,none⟩) hblW).trans a3;have d4:=(HF.o.cell (p:=⟨bW,oW+k*11+4,none⟩) hblW).trans a4;have d5:=(HF.o.cell (p:=⟨bW,oW+k*11+5,none⟩) hblW).trans a5;have d6:=(HF.o.cell (p:=⟨bW,oW+k*11+6,none⟩) hblW).trans a6;have d7:=(HF.o.cell (p:=⟨bW,oW+k*11+7,none⟩) hblW).trans a7;have d8:=(HF.o.cell (p:=⟨bW,oW+k*11+8,none⟩) hblW).trans a8;have d9:=(HF.o.cell (p:=⟨bW,oW+k*11+9,none⟩) hblW).trans a9;have d10:=(HF.o.cell (p:=⟨bW,oW+k*11+10,none⟩) hblW).trans a10
   have k0':(0:Int)<=(k:Int):=by omega
   have k1:(k:Int)<(ws.length:Int):=by omega
   have LI:=zaa (fun w1=>zvr ws[k] w1 (HR.o k hlt))
   have H2:Hid (zdp ws[k]=true->∀ j (h:j<ws.length),j<k+1->zdp ws[j]=true):=fun q j h a=>by
    by_cases e:j=k
    ·subst e;exact q
    ·exact H.o.2 j h (by omega)
   have H3:=zaa (fun q=>yaaq hlt q);clear a0 a1 a2 a3 a4 a5 a6 a7 a8 a9 a10 H;generalize ws[k]=x at d0 d1 d2 d3 d4 d5 d6 d7 d8 d9 d10 LI H2 H3
   cases qq:zdp x with
   | true =>
    rw[qq]at LI;have E:=zaa (H2.o qq);clear H2 H3 qq;go_wp2_with fail;refine(LI.o _).mono ?_;rintro e w1 ⟨rfl,hb1⟩;have B3:=zaa (zab H1.o hb1 H1.o.size);clear hb1 d0 d1 d2 d3 d4 d5 d6 d7 d8 d9 d10 x0 x1;go_wp2
    go_roundw
    case rel=>exact⟨k+1,by omega,by go_num,B3.o,E.o⟩
    case measure=>simp[intOf];omega
   | false =>
    rw[qq]at LI;have E:=zaa (show zbo ws ps=false by rw[E2.o,H3.o qq];rfl);clear H2 H3 qq;go_wp2_with fail;refine(LI.o _).mono ?_;rintro e w1 ⟨rfl,hb1⟩;have B3:=zaa (zab HF.o hb1 HF.o.size);clear hb1 d0 d1 d2 d3 d4 d5 d6 d7 d8 d9 d10 x0 x1;go_wp2;go_ret;exact⟨zah E.o.symm,B3.o⟩
  ·have O:=zaa (yahg (fun j h=>H.o.2 j h (by omega)));have E3:=zaa (show zbo ws ps=(zhn ws ps&&(zfz ws ps&&zig ws)) by rw[E2.o,O.o];rfl);clear H;generalize zhn ws ps=f1 at *;generalize zfz ws ps=f2 at *;generalize zig ws=f3 at *;go_wp2_with fail;refine(L2.o _ (HRD.o.below HF.o) C1.o).mono ?_;rintro e w1 ⟨rfl,hb1⟩;have B1:=zaa (zab HF.o hb1 HF.o.size);have BA:=zaa (zab H1.o hb1 H1.o.size);clear hb1 x0 x1
   cases f1 with
   | false =>
    go_wp2;go_ret;exact⟨zah (by rw[E3.o];rfl),B1.o⟩
   | true =>
   obtain⟨x0,x1⟩:=CA.o _ BA.o;go_wp2_with fail;refine(L1.o _ (HRD.o.below B1.o)).mono ?_;rintro e w2 ⟨rfl,hb2⟩;have B2:=zaa (zab B1.o hb2 B1.o.size);have BB:=zaa (zab BA.o hb2 BA.o.size);clear hb2 x0 x1
   cases f2 with
   | false =>
    go_wp2;go_ret;exact⟨zah (by rw[E3.o];rfl),B2.o⟩
   | true =>
   obtain⟨x0,x1⟩:=CA.o _ BB.o;go_wp2_with fail;refine(L3.o _ (HRD.o.below B2.o) C1.o O.o).mono ?_;rintro e w3 ⟨rfl,hb3⟩;have B3:=zaa (zab B2.o hb3 B2.o.size);clear hb3 x0 x1;go_wp2;go_ret;exact⟨zah (by rw[E3.o];rfl),B3.o⟩
def wdI(ls:List Int)(z:Int):Int:=ls.getD z.toNat 0
theorem yarx{ls:List Int}{n:Nat}(h:n<ls.length):wdI ls (n:Int)=ls[n]:=by
 unfold wdI;rw[Int.toNat_natCast,List.getD_eq_getElem?_getD,List.getElem?_eq_getElem h];rfl
def zee(ls:List Int)(i:Nat):Ino:=⟨wdI ls (48+12*(i:Int)),wdI ls (48+12*(i:Int)+1),wdI ls (48+12*(i:Int)+2),wdI ls (48+12*(i:Int)+3),wdI ls (48+12*(i:Int)+4),wdI ls (48+12*(i:Int)+5),wdI ls (48+12*(i:Int)+6),wdI ls (48+12*(i:Int)+7),wdI ls (48+12*(i:Int)+8),wdI ls (48+12*(i:Int)+9),wdI ls (48+12*(i:Int)+10)⟩
def zfo(ls:List Int)(k:Nat):Den:=if wdI ls (240+3*(k:Int)+2)=0 then⟨0,⟨#[]⟩,-1⟩ else⟨wdI ls (240+3*(k:Int)),unpS (wdI ls (240+3*(k:Int)+1)),wdI ls (240+3*(k:Int)+2)-1⟩
def zcp(ls:List Int)(k:Nat):Bool:=if wdI ls (240+3*(k:Int)+2)=0 then wdI ls (240+3*(k:Int)) == 0&&wdI ls (240+3*(k:Int)+1) == 0 else zjx (wdI ls (240+3*(k:Int)+1))
def zbq(ls:List Int)(n:Nat):List Ino:=(List.range n).map (zee ls)
def zby(ls:List Int)(n:Nat):List Den:=(List.range n).map (zfo ls)
def zcm(ls:List Int)(n:Nat):Bool:=(List.range n).all (zcp ls)
theorem zwh(ls:List Int)(n:Nat):zbq ls (n+1)=zbq ls n++[zee ls n]:=by unfold zbq;rw[List.range_succ,List.map_append];rfl
theorem znr(ls:List Int)(n:Nat):zby ls (n+1)=zby ls n++[zfo ls n]:=by unfold zby;rw[List.range_succ,List.map_append];rfl
theorem zew(ls:List Int)(n:Nat):(zbq ls n).length=n:=by simp[zbq]
theorem zdd(ls:List Int)(n:Nat):(zby ls n).length=n:=by simp[zby]
theorem zkd{ls:List Int}{n k:Nat}(hk:k<n)(h:zcp ls k=false):zcm ls n=false:=by
 unfold zcm;rw[List.all_eq_false];exact⟨k,List.mem_range.2 hk,by rw[h];simp⟩
theorem zid{ls:List Int}{n:Nat}(h:∀ k,k<n->zcp ls k=true):zcm ls n=true:=by
 unfold zcm;rw[List.all_eq_true];intro k hk;exact h k (List.mem_range.1 hk)
theorem yalv{ws:List Int}{ps:List St}(h:pmB ws ps=true):∀ k (h:k<(zdv ws ps).length),zbz (zdv ws ps)[k]=true:=by
 have h1:=yaad h
 have h2:∀ p∈ps,zbz p.val=true:=fun p hp=>by
  obtain⟨i,hi,rfl⟩:=List.getElem_of_mem hp;exact(zjq h i hi).2
 clear h
 have gen:∀ (ps:List St) (ws:List Int),(∀ x∈ws,zbz x=true)->(∀ p∈ps,zbz p.val=true)->∀ x∈zdv ws ps,zbz x=true:=by
  intro ps
  induction ps with
  | nil=>intro ws h _ x hx;exact h x hx
  | cons p ps ih =>
   intro ws h1 h2 x hx;refine ih (ws.set p.at_.toNat p.val) (fun y hy=>?_) (fun q hq=>h2 q (List.mem_cons_of_mem _ hq)) x hx
   rcases List.mem_or_eq_of_mem_set hy with hy | hy
   ·exact h1 y hy
   ·rw[hy];exact h2 p (List.mem_cons_self ..)
 intro k hk;exact gen ps ws (fun x hx=>by obtain⟨i,hi,rfl⟩:=List.getElem_of_mem hx;exact h1 i hi) h2 _ (List.getElem_mem hk)
theorem zvy{ws:List Int}{ps:List St}(h:pmB ws ps=true)(z:Int):0<=wdI (zdv ws ps) z/\wdI (zdv ws ps) z<1099511627776:=by
 unfold wdI;rw[List.getD_eq_getElem?_getD]
 by_cases c:z.toNat<(zdv ws ps).length
 ·rw[List.getElem?_eq_getElem c];have:=yalv h _ c;unfold zbz at this;simp at this;simpa using this
 ·rw[List.getElem?_eq_none (by omega)];exact⟨by simp,by simp⟩
theorem yaqd{ws:List Int}{ps:List St}(h:pmB ws ps=true)(i:Nat):(zee (zdv ws ps) i).R:=by
 intro z hz
 have all:∀ y,-9223372036854775808<=wdI (zdv ws ps) y/\wdI (zdv ws ps) y<=9223372036854775807:=fun y=>by have:=zvy h y;omega
 simp only[Ino.map,zee,List.mem_cons,List.not_mem_nil,or_false]at hz
 rcases hz with rfl|rfl|rfl|rfl|rfl|rfl|rfl|rfl<;>exact all _
theorem yalj(n:Int):(unpS n).size<=6:=by
 unfold unpS
 split
 ·rename_i h;have:=(of_decide_eq_true h).2.2
  show((zou n.toNat).map fun d=>UInt8.ofNat (96+d)).toArray.size<=6
  simpa using this
 ·exact Nat.zero_le _
theorem yabe(ls:List Int)(k:Nat):(zfo ls k).name.size<=maxLen:=by
 unfold zfo
 split
 ·exact Nat.zero_le _
 ·have:=yalj (wdI ls (240+3*(k:Int)+1))
  show(unpS _).size<=maxLen
  unfold maxLen;omega
theorem yaqr(v:Value)(ws:List Int)(ps:List St)(z:Int)(w:World)(h:RdPm w v ws ps)(hp:pmB ws ps=true)(h0:0<=z/\z<336) :
  zC 55 #[v,.I z] w fun e w'=>e=.returned (.I (wdI (zdv ws ps) z))/\zB w w':=by
 obtain⟨n,rfl⟩:∃ n:Nat,z=(n:Int):=⟨z.toNat,by omega⟩
 obtain⟨l1,l2⟩:=zhx hp
 have hn:n<ws.length:=by omega
 rw[yarx (by rw[zcr];exact hn),yahk ps ws n hn (fun p hq=>by obtain⟨i,hi,rfl⟩:=List.getElem_of_mem hq;exact(yasa hp i hi).1)];exact zmo v ws ps n w h (by omega) (by omega) hn
theorem zzk{a b c:World}(h1:zB a b)(h2:zB b c):zB a c:=zab h1 h2 h1.size
structure RimI(W w:World)(bM:Nat)(vI vD:Value)(xs:List Ino)(ds:List Den):Prop where
 m:w.heap[bM]?=some (.cells #[vI,vD] 26 (0,0))
 i:w.ownsRow W.heap.size 41 11 vI xs.length (inos xs)
 d:w.ownsRow W.heap.size 52 3 vD ds.length (dens ds)
 b:zB W w
 hb:W.heap.size<=bM
theorem RimI.lt{W w:World}{bM:Nat}{vI vD:Value}{xs:List Ino}{ds:List Den}(h:RimI W w bM vI vD xs ds):bM<w.heap.size:=(Array.getElem?_eq_some_iff.1 h.m).1
theorem RimI.z{W w:World}{bM:Nat}{vI vD:Value}{xs:List Ino}{ds:List Den}(h:RimI W w bM vI vD xs ds):W.heap.size<=w.heap.size:=h.b.size
theorem RimI.below{W w w':World}{bM:Nat}{vI vD:Value}{xs:List Ino}{ds:List Den}(h:RimI W w bM vI vD xs ds)(hb:zB w w'):RimI W w' bM vI vD xs ds :=
 ⟨(hb.block _ h.lt).trans h.m,((zac h.i).below hb zL).1,((zac h.d).below hb zL).1,zab h.b hb h.z,h.hb⟩
theorem zcl{w:World}{base:Nat}{e t:TypeId}{size:Nat}{v:Value}{n:Nat}{xs:List Value}{b:Nat}{cs:Array Value}{fr:Nat×Nat}(h:w.ownsRow base e size v n xs)(hb:w.heap[b]?=some (.cells cs t fr))(hne:e≠t):v.ownBlock≠some b:=by
 intro hv;obtain⟨_,h1 | ⟨g,cap,cur,e1,_,hg,_⟩⟩:=h
 ·rw[h1.1]at hv;cases hv
 ·rw[e1]at hv
  have:g=b:=by simpa[Value.ownBlock]using hv
  subst this;rw[hg]at hb;injection hb with hb;injection hb with _ ht _;exact hne ht
theorem zqy:(41:Nat)≠26:=by decide
theorem zrz:(52:Nat)≠26:=by decide
theorem yajb:(41:Nat)≠52:=by decide
theorem yakd(l l':List Ino):inos (l++l')=inos l++inos l':=by simp[inos]
theorem yadg(l:List Ino):∀ u∈inos l,u.oneCell'=true:=by
 intro u hu;simp only[inos,List.mem_flatMap]at hu;obtain⟨m,_,hm⟩:=hu;simp[Ino.cs]at hm
 rcases hm with rfl|rfl|rfl|rfl|rfl|rfl|rfl|rfl|rfl|rfl|rfl<;>rfl
theorem RimI.growI{W w w':World}{bM:Nat}{vI vD v':Value}{xs:List Ino}{ds:List Den}(h:RimI W w bM vI vD xs ds)(x:Ino)(ho:w'.ownsRow W.heap.size 41 11 v' (xs.length+1) (inos xs++inos [x]))(hg:w.grownBy w' vI.ownBlock) :
  w'.heap[bM]?=some (.cells #[vI,vD] 26 (0,0))/\RimI W (w'.setCell ⟨bM,0,none⟩ v') bM v' vD (xs++[x]) ds:=by
 have hm:w'.heap[bM]?=some (.cells #[vI,vD] 26 (0,0)):=(hg.block _ h.lt (zcl h.i h.m zqy).symm).trans h.m;have hd:=(Row.apart (zac h.d) (zac h.i) (Ne.symm yajb) hg).1;have hbw:=h.b.grown hg h.z (fun q hq=>(h.i.lt q hq).1);have hm2:(w'.setCell ⟨bM,0,none⟩ v').heap[bM]?=some (.cells #[v',vD] 26 (0,0)):=zbs (xs:=[vI,vD]) hm 0 v';refine⟨hm,hm2,?_,?_,hbw.setCell h.hb _,h.hb⟩
 ·rw[yakd,List.length_append];exact ownsRow_setCell_other ho (zcl ho hm zqy) _
 ·exact ownsRow_setCell_other hd (zcl hd hm zrz) _
theorem RimI.growD{W w w':World}{bM:Nat}{vI vD v':Value}{xs:List Ino}{ds:List Den}(h:RimI W w bM vI vD xs ds)(x:Den)(ho:w'.ownsRow W.heap.size 52 3 v' (ds.length+1) (dens ds++dens [x]))(hg:w.grownBy w' vD.ownBlock) :
  w'.heap[bM]?=some (.cells #[vI,vD] 26 (0,0))/\RimI W (w'.setCell ⟨bM,1,none⟩ v') bM vI v' xs (ds++[x]):=by
 have hm:w'.heap[bM]?=some (.cells #[vI,vD] 26 (0,0)):=(hg.block _ h.lt (zcl h.d h.m zrz).symm).trans h.m;have hd:=(Row.apart (zac h.i) (zac h.d) yajb hg).1;have hbw:=h.b.grown hg h.z (fun q hq=>(h.d.lt q hq).1);have hm2:(w'.setCell ⟨bM,1,none⟩ v').heap[bM]?=some (.cells #[vI,v'] 26 (0,0)):=zbs (xs:=[vI,vD]) hm 1 v';refine⟨hm,hm2,?_,?_,hbw.setCell h.hb _,h.hb⟩
 ·exact ownsRow_setCell_other hd (zcl hd hm zqy) _
 ·rw[ziv,List.length_append];exact ownsRow_setCell_other ho (zcl ho hm zrz) _
theorem zbh{a w:World}(h:zB a w)(o:Obj):zB a (w.alloc o):=h.alloc h.size o
structure BoxZ(t:TypeId)(wr w:World)(b:Nat)(cs:List Value):Prop where
 ge:wr.heap.size<=b
 at_:w.heap[b]?=some (.cells cs.toArray t (0,0))
theorem BoxZ.new{t:TypeId}{wr Y:World}{cs:List Value}(h:zB wr Y):BoxZ t wr (Y.alloc (.cells cs.toArray t)) Y.heap.size cs:=⟨h.size,zai rfl⟩
theorem BoxZ.drew{t:TypeId}{wr w:World}{b:Nat}{cs:List Value}(h:BoxZ t wr w b cs):BoxZ t wr w.drew b cs:=⟨h.ge,h.at_⟩
theorem BoxZ.lt{t:TypeId}{wr w:World}{b:Nat}{cs:List Value}(h:BoxZ t wr w b cs):b<w.heap.size:=(Array.getElem?_eq_some_iff.1 h.at_).1
theorem BoxZ.below{t:TypeId}{wr X w:World}{b:Nat}{cs:List Value}(h:BoxZ t wr X b cs)(hb:zB X w):BoxZ t wr w b cs:=⟨h.ge,(hb.block _ h.lt).trans h.at_⟩
theorem BoxZ.put{t:TypeId}{wr w:World}{b:Nat}{cs:List Value}(h:BoxZ t wr w b cs)(j:Nat)(u:Value):BoxZ t wr (w.setCell ⟨b,j,none⟩ u) b (cs.set j u):=⟨h.ge,zbs h.at_ j u⟩
theorem BoxZ.cell{t:TypeId}{wr w:World}{b:Nat}{cs:List Value}(h:BoxZ t wr w b cs)(j:Nat):w.cell? ⟨b,j,none⟩=cs[j]?/\w.frozen? ⟨b,j,none⟩=false:=zat h.at_ j
end Go.Proofs.YtfagbapgnocjiaaGreatDoor
