import Derived.Test.YtogcbbkhnpmgeaaGreatDoorZAL
import Derived.Test.YtogcbbkhnpmgeaaGreatDoorZAM
set_option maxRecDepth 100000
set_option maxHeartbeats 8000000
namespace Go.Proofs.YtogcbbkhnpmgeaaGreatDoor
open Go.RowKit
def pimB(ws:List Ino)(ps:List Den):Bool:=zir ws ps&&(zaj ws 0 == 2&&(zta ws (zau ps)&&(zpz ((zau ps).map zkh)&&(lcB ws (zau ps)&&(dhB ws (zau ps)&&zgn (zam ws))))))
theorem yaje{ws:List Ino}{ps:List Den}(h:zir ws ps=true):ws.length=16/\ps.length=24/\okNs ws=true/\okDs ps=true:=by
 unfold zir at h;simp only[Bool.and_eq_true,decide_eq_true_eq]at h;exact h
theorem yaby{ps:List Den}(h:okDs ps=true):∀ k (h:k<(zau ps).length),(0<=(zau ps)[k].child/\(zau ps)[k].child<=15)/\(0<=(zau ps)[k].dir/\(zau ps)[k].dir<=15):=by
 have h:=of_decide_eq_true h;intro k hk;obtain⟨hm,hf⟩:=List.mem_filter.1 (List.getElem_mem hk);obtain⟨i,hi,e⟩:=List.getElem_of_mem hm;have o:=h i hi;rw[e]at o;have c:=zph o (fun q=>by rw[(zrw o).2 q]at hf;cases hf);exact⟨by omega,c.2.1⟩
theorem yapa(v:Value)(ws:List Ino)(ps:List Den)(w:World)(h:RdIm w v ws ps)(hw:ws.length<=1048576)(hp:ps.length<=1048576)(hT:TS w)(hE:ED w)(hF:FD w)(hr:∀ k (h:k<ws.length),ws[k].R)(hs:∀ k (h:k<ps.length),ps[k].name.size<=maxLen) :
  zC 24 #[v] w fun e w'=>e=.returned (.bool (pimB ws ps))/\zB w w':=by
 have LP:=zaa (fun w1 (hb:zB w w1)=>yacd v ws ps w1 (h.below hb) hw hp (hT.below hb) (hE.below hb) (hF.below hb) hr hs);obtain⟨vW,vP,rfl,h1,h2⟩:=h;have RW:=zaa h1;have RP:=zaa h2;obtain⟨aW,cW,rfl,_,hcW⟩:=h1.shape;obtain⟨aP,cP,rfl,_,_⟩:=h2.shape;have BW:=zaa ((Below.refl w.heap.size w).alloc zL (.cells #[.slice aW ws.length cW,.slice aP ps.length cP] 51))
 have CA:Hid (∀ w',Below (w.alloc (.cells #[.slice aW ws.length cW,.slice aP ps.length cP] 51)).heap.size (w.alloc (.cells #[.slice aW ws.length cW,.slice aP ps.length cP] 51)) w'->w'.cell? ⟨w.heap.size,0,none⟩=some (.slice aW ws.length cW)/\w'.cell? ⟨w.heap.size,1,none⟩=some (.slice aP ps.length cP)):=fun w' hb=>by
  have:w'.heap[w.heap.size]?=some (.cells #[.slice aW ws.length cW,.slice aP ps.length cP] 51 (0,0)):=(hb.block _ (by simp)).trans (zaf rfl);exact⟨(zac this).1,(zac this).2.1⟩
 obtain⟨x0,x1⟩:=CA.o _ zR;have F:=zaa hF;clear h1 h2 hT hE hF hr hs
 cases c1:zir ws ps with
 | false =>
  have E:=zaa (show pimB ws ps=false by unfold pimB;rw[c1];rfl);rw[c1]at LP;clear c1 hcW;go_enter Tryz.func24,Tryz.ntmps24;go_wp2_with fail;refine(LP.o _ BW.o).mono ?_;rintro e w1 ⟨rfl,hb1⟩;have B1:=zaa (zab BW.o hb1 BW.o.size);clear hb1 x0 x1;go_wp2;go_ret;exact⟨zai E.o.symm,B1.o⟩
 | true =>
 obtain⟨l1,l2,o1,o2⟩:=yaje c1;have E0:=zaa (show pimB ws ps=(zaj ws 0 == 2&&(zta ws (zau ps)&&(zpz ((zau ps).map zkh)&&(lcB ws (zau ps)&&(dhB ws (zau ps)&&zgn (zam ws)))))) by unfold pimB;rw[c1,Bool.true_and]);rw[c1]at LP;obtain⟨bW,oW,rfl,hblW,hcellW⟩:=hcW (by omega);have HK:=(hcellW 0 (by omega)).1;rw[show ws[0].kind=zaj ws 0 from(zbk (i:=0) (by omega)).symm]at HK;simp only[Nat.zero_mul,Nat.add_zero]at HK
 have KK:Hid (∀ w',zB w w'->w'.cell? ⟨bW,oW,none⟩=some (.I (zaj ws 0))):=fun w' hb=>(hb.cell (p:=⟨bW,oW,none⟩) hblW).trans HK
 have TR:=zaa (yaby o2)
 have tl:(zau ps).length<=24:=by have:=zrd ps;omega
 have ml:(zam ws).length<=128:=by have:=zfz ws;omega
 have len16:(0:Int)<(ws.length:Int):=by omega
 have L1:=zaa l1;have L2:=zaa l2;have LT:=zaa (fun w1 (hb:zB w w1)=>zit (.slice aP ps.length cP) ps w1 (Rd.below RP.o hb) (by omega) (F.o.below hb));have LM:=zaa (fun w1 (hb:zB w w1)=>zhm (.slice (some ⟨bW,oW,none⟩) ws.length cW) ws w1 (Rd.below RW.o hb) (by omega));have LK:=zaa (fun v w1 (hb:zB w w1) h=>zzc (.slice (some ⟨bW,oW,none⟩) ws.length cW) v ws (zau ps) w1 (Rd.below RW.o hb) h l1 (by omega) TR.o);have LC:=zaa (fun v w1 (hb:zB w w1) h=>zov (.slice (some ⟨bW,oW,none⟩) ws.length cW) v ws (zau ps) w1 (Rd.below RW.o hb) h l1 (by omega) (fun k hk=>(TR.o k hk).1));have LH:=zaa (fun v w1 (hb:zB w w1) h=>zlm (.slice (some ⟨bW,oW,none⟩) ws.length cW) v ws (zau ps) w1 (Rd.below RW.o hb) h l1 (by omega) TR.o);have LO:=zaa (fun v w1 h=>zwg v (zau ps) w1 h (by omega));have LI:=zaa (fun v w1 h=>zor v (zam ws) w1 h (by omega));clear l1 l2 o1 o2 c1 hcW hcellW HK TR F RP RW;generalize zaj ws 0=k0 at *;generalize zau ps=ts at *;generalize zam ws=ms at *;generalize zta ws ts=f1 at *;generalize zpz (ts.map zkh)=f2 at *;generalize lcB ws ts=f3 at *;generalize dhB ws ts=f4 at *;generalize zgn ms=f5 at *
 by_cases c2:k0=2
 case neg =>
  have q:(k0 != 2)=true:=by rw[bne_iff_ne];exact c2
  have E:=zaa (show pimB ws ps=false by rw[E0.o,show(k0 == 2)=false by rw[beq_eq_false_iff_ne];exact c2];rfl);clear c2;go_enter Tryz.func24,Tryz.ntmps24;go_wp2_with fail;refine(LP.o _ BW.o).mono ?_;rintro e w1 ⟨rfl,hb1⟩;have B1:=zaa (zab BW.o hb1 BW.o.size);clear x0 x1;obtain⟨x0,x1⟩:=CA.o _ hb1;have kk:=KK.o _ B1.o;clear hb1;go_wp2;go_ret;exact⟨zai E.o.symm,B1.o⟩
 have q:(k0 != 2)=false:=by rw[c2];rfl
 have E1:=zaa (show pimB ws ps=(f1&&(f2&&(f3&&(f4&&f5)))) by rw[E0.o,c2];rfl);clear c2 E0;go_enter Tryz.func24,Tryz.ntmps24;go_wp2_with fail;refine(LP.o _ BW.o).mono ?_;rintro e w1 ⟨rfl,hb1⟩;have B1:=zaa (zab BW.o hb1 BW.o.size);have BA:=zaa hb1;clear x0 x1 LP;obtain⟨x0,x1⟩:=CA.o _ hb1;have kk:=KK.o _ B1.o;clear hb1;go_wp2_with fail;refine(LT.o _ B1.o).mono ?_;rintro e w2 ⟨v2,rfl,hr2,hb2⟩;obtain⟨-,aT,cT,hvT,-⟩:=hr2.rd;subst hvT;have hz1:w.heap.size<=w1.heap.size:=B1.o.size;have hz2:w1.heap.size<=w2.heap.size:=hb2.size;have R2:=zaa hr2.rd;have B2:=zaa (zab B1.o hb2 hz1);have BA2:=zaa (zab BA.o hb2 BA.o.size);clear hr2 x0 x1 kk B1 BA KK LT hb2;obtain⟨x0,x1⟩:=CA.o _ BA2.o;go_wp2_with fail;refine(LK.o _ _ B2.o R2.o).mono ?_;rintro e w3 ⟨rfl,hb3⟩;have hz3:w2.heap.size<=w3.heap.size:=hb3.size;have R3:=zaa (Rd.below R2.o hb3);have B3:=zaa (zab B2.o hb3 (by omega));have BA3:=zaa (zab BA2.o hb3 (by have:=BA2.o.size;omega));clear hb3 x0 x1 R2 B2 BA2
 cases f1 with
 | false =>
  go_wp2;go_ret;exact⟨zai (by rw[E1.o];rfl),B3.o⟩
 | true =>
 go_wp2_with fail;refine(LO.o _ _ R3.o).mono ?_;rintro e w4 ⟨rfl,hb4⟩;have hz4:w3.heap.size<=w4.heap.size:=hb4.size;have R4:=zaa (Rd.below R3.o hb4);have B4:=zaa (zab B3.o hb4 (by omega));have BA4:=zaa (zab BA3.o hb4 (by have:=BA3.o.size;omega));clear hb4 R3 B3 BA3
 cases f2 with
 | false =>
  go_wp2;go_ret;exact⟨zai (by rw[E1.o];rfl),B4.o⟩
 | true =>
 obtain⟨x0,x1⟩:=CA.o _ BA4.o;go_wp2_with fail;refine(LC.o _ _ B4.o R4.o).mono ?_;rintro e w5 ⟨rfl,hb5⟩;have hz5:w4.heap.size<=w5.heap.size:=hb5.size;have R5:=zaa (Rd.below R4.o hb5);have B5:=zaa (zab B4.o hb5 (by omega));have BA5:=zaa (zab BA4.o hb5 (by have:=BA4.o.size;omega));clear hb5 x0 x1 R4 B4 BA4
 cases f3 with
 | false =>
  go_wp2;go_ret;exact⟨zai (by rw[E1.o];rfl),B5.o⟩
 | true =>
 obtain⟨x0,x1⟩:=CA.o _ BA5.o;go_wp2_with fail;refine(LH.o _ _ B5.o R5.o).mono ?_;rintro e w6 ⟨rfl,hb6⟩;have hz6:w5.heap.size<=w6.heap.size:=hb6.size;have B6:=zaa (zab B5.o hb6 (by omega));have BA6:=zaa (zab BA5.o hb6 (by have:=BA5.o.size;omega));clear hb6 x0 x1 R5 B5 BA5
 cases f4 with
 | false =>
  go_wp2;go_ret;exact⟨zai (by rw[E1.o];rfl),B6.o⟩
 | true =>
 obtain⟨x0,x1⟩:=CA.o _ BA6.o;go_wp2_with fail;refine(LM.o _ B6.o).mono ?_;rintro e w7 ⟨v7,rfl,hr7,hb7⟩;obtain⟨-,aM,cM,hvM,-⟩:=hr7.rd;subst hvM;have B7:=zaa (zab B6.o hb7 (by omega));have R7:=zaa hr7.rd;clear hb7 hr7 x0 x1 B6 BA6;go_wp2_with fail;refine(LI.o _ _ R7.o).mono ?_;rintro e w' ⟨rfl,hw'⟩;subst w';go_wp2;go_ret;exact⟨zai (by rw[E1.o];rfl),B7.o⟩
def zlh(ws:List Ino):Bool:=zgn (zay (zam ws) 1)&&zgn (zay (zam ws) 2)
def zbg(ws:List Ino)(ps:List Den):Bool:=decide (ws.length=16)&&(decide (ps.length=24)&&(zaj ws 0 == 2&&(okNs ws&&(zkj ws ps&&(zhp ws ps&&zlh ws)))))
theorem zfs{x:Ino}(h:zed x=true):(∀ z∈x.map,zer z=true)/\(x.kind=2->x.links=1):=by
 unfold zed at h;simp only[Bool.and_eq_true,decide_eq_true_eq]at h;obtain⟨_,_,_,d,f⟩:=h;refine⟨fun z hz=>?_,fun k=>?_⟩
 ·obtain⟨i,hi,rfl⟩:=List.getElem_of_mem hz;have:=zle d i hi;rw[List.getD_eq_getElem?_getD,List.getElem?_eq_getElem hi]at this;unfold ztw at this;simp only[Option.getD_some,Bool.and_eq_true]at this;exact this.1
 ·unfold zfm at f;rw[if_neg (by omega),if_pos k]at f;simp only[Bool.and_eq_true,beq_iff_eq]at f;exact f.2
theorem zeq{z:Int}(h:zer z=true):0<=z/\z<=1048576:=by
 unfold zer zfl at h;simp only[Bool.and_eq_true,decide_eq_true_eq]at h;omega
theorem zrc{ws:List Ino}(h:okNs ws=true):∀ i (h:i<ws.length),∀ z∈ws[i].map,zer z=true:=fun i hi=>(zfs ((of_decide_eq_true h:∀ k (h:k<ws.length),zed ws[k]=true) i hi)).1
theorem yaxf(ws:List Ino)(ps:List Den):pimB ws ps=zbg ws ps:=by
 unfold pimB zbg zir
 by_cases l1:ws.length=16
 case neg=>simp[l1]
 by_cases l2:ps.length=24
 case neg=>simp[l2]
 rw[decide_eq_true l1,decide_eq_true l2,Bool.true_and,Bool.true_and,Bool.true_and,Bool.true_and]
 cases o1:okNs ws
 ·simp
 cases o2:okDs ps
 ·have:zkj ws ps=false:=by
   rw[Bool.eq_false_iff];intro e;rw[yaqr e]at o2
   cases o2
  rw[this];simp
 rw[yayr o2]
 cases f1:zta ws (zau ps)
 ·simp
 cases f2:zpz ((zau ps).map zkh)
 ·simp
 rw[yars l1 (fun i hi=>(zfs ((of_decide_eq_true o1:∀ k (h:k<ws.length),zed ws[k]=true) i hi)).2) o2 f1];have s1:zlh ws=zgn (zam ws):=zre (fun e he=>(zri (zrc o1) e he).2);rw[s1];simp[Bool.and_assoc]
theorem zwv(v:Value)(ws:List Ino)(ps:List Den)(w:World)(h:RdIm w v ws ps)(hn:ws.length=16)(hr:∀ k (h:k<ws.length),∀ z∈ws[k].map,0<=z/\z<=1048576) :
  zC 91 #[v] w fun e w'=>e=.returned (.bool (zlh ws))/\zB w w':=by
 have HR:=zaa h;have LU:=zaa (fun t w1 h=>zqt v ws ps t w1 h (by omega) hr);have UL:=zaa (fun t=>show(zay (zam ws) t).length<=128 by have:=zhu (zam ws) t;have:=zfz ws;omega);obtain⟨vW,vP,rfl,h1,h2⟩:=h;obtain⟨aW,cW,rfl,_,_⟩:=h1.shape;obtain⟨aP,cP,rfl,_,_⟩:=h2.shape;clear h1 h2 hr hn
 obtain⟨W,hW⟩:=zE (w.alloc (.cells #[.slice aW ws.length cW,.slice aP ps.length cP] 51))
 have CA:Hid (∀ w',zB W w'->w'.cell? ⟨w.heap.size,0,none⟩=some (.slice aW ws.length cW)/\w'.cell? ⟨w.heap.size,1,none⟩=some (.slice aP ps.length cP)):=fun w' hb=>by
  have:w'.heap[w.heap.size]?=some (.cells #[.slice aW ws.length cW,.slice aP ps.length cP] 51 (0,0)):=(hb.block _ (by rw[hW];simp)).trans (by rw[hW];exact zaf rfl);exact⟨(zac this).1,(zac this).2.1⟩
 have BW:Hid (zB w W):=by rw[hW];exact zR.alloc zL _
 have hz:w.heap.size<=W.heap.size:=BW.o.size;have SG:=zaa (show zlh ws=(zgn (zay (zam ws) 1)&&zgn (zay (zam ws) 2))from rfl);generalize zay (zam ws)=uf at *;go_enter Tryz.func91,Tryz.ntmps91;go_wp2;rw[<- hW];clear hW
 go_loopw [3] (fun i wr=>∃ t:Nat,(1<=t/\t<=3)/\i=.I t/\Hid (zB W wr/\∀ s:Nat,1<=s->s<t->zgn (uf (s:Int))=true)) (fun i _=>3-(intOf i).toNat)
 case atStart=>exact⟨1,by omega,rfl,zR,fun s h a=>absurd a (by omega)⟩
 case round =>
  obtain⟨t,ht,rfl,J⟩:=hrel;have J1:=zaa J.o.1;have JW:=zaa (zab BW.o J.o.1 hz);obtain⟨x0,x1⟩:=CA.o wr J.o.1
  by_cases hlt:t<=2
  ·have t2:(t:Int)<=2:=by omega
   have t1:(0:Int)<=(t:Int):=by omega
   have JS:=zaa J.o.2
   have NO:Hid (zgn (uf (t:Int))=false->zlh ws=false):=fun q=>by
    rw[SG.o]
    rcases(show t=1\/t=2 by omega)with rfl|rfl
    ·rw[show((1:Nat):Int)=1 from rfl]at q;rw[q];rfl
    ·rw[show((2:Nat):Int)=2 from rfl]at q;rw[q,Bool.and_false]
   clear J;go_wp2_with fail;refine(LU.o _ _ (HR.o.below JW.o)).mono ?_;rintro e w1 ⟨v1,rfl,hr1,hb1⟩;obtain⟨-,aL,cL,hvL,hcap,-⟩:=hr1.rd;have hcap1:=hcap.1;subst hvL;have R1:Hid (RdI w1 (.slice aL (uf (t:Int)).length cL) (uf (t:Int))):=hr1.rd;have B1:=zaa (zab J1.o hb1 J1.o.size);have B2:=zaa (zab BW.o B1.o hz);have ul:=UL.o (t:Int)
   have JN:Hid (zgn (uf (t:Int))=true->∀ s:Nat,1<=s->s<t+1->zgn (uf (s:Int))=true):=fun q s h a=>by
    by_cases e:s=t
    ·subst e;exact q
    ·exact JS.o s h (by omega)
   clear hr1 hb1 x0 x1 hcap JS;generalize uf (t:Int)=zs at *;obtain⟨aZ,cZ,e,_,hcZ⟩:=R1.o.shape;have HZ:=zaa hcZ
   obtain⟨rfl,rfl⟩:aZ=aL/\cZ=cL:=by cases e;exact⟨rfl,rfl⟩
   clear e hcZ;go_wp2
   go_loopw [5] (fun i wq=>∃ k:Nat,k<=zs.length/\i=.I k/\Hid (zB w1 wq/\∀ j (h:j<zs.length),j<k->zfa (zs.take j) zs[j]=false)) (fun i _=>zs.length-(intOf i).toNat)
   case atStart=>exact⟨0,by omega,rfl,zR,fun j h a=>absurd a (by omega)⟩
   case round =>
    obtain⟨k,hk,rfl,H⟩:=hrel
    have k0:(0:Int)<=(k:Int):=by omega
    have H1:=zaa H.o.1;have HB:=zaa (zab B1.o H.o.1 B1.o.size);have HF:=zaa (zab B2.o H.o.1 B2.o.size)
    by_cases hlk:k<zs.length
    ·obtain⟨b,o,rfl,hbl,hcell⟩:=HZ.o (by omega);have hck:=(H1.o.cell (p:=⟨b,o+k,none⟩) hbl).trans (hcell k hlk)
     have k1:(k:Int)<(zs.length:Int):=by omega
     have k2:(k:Int)<=(cZ:Int):=by omega
     have hblr:b<wr.heap.size:=by have:=H1.o.size;omega
     have RT:=zaa (RdI.take (Rd.below R1.o H1.o) hk);have LT:=zaa (show(zs.take k).length<=1048576 by rw[List.length_take];omega);clear hcell
     cases q:zfa (zs.take k) zs[k] with
     | false =>
      have H':Hid (∀ j (h:j<zs.length),j<k+1->zfa (zs.take j) zs[j]=false):=fun j h a=>by
       by_cases e:j=k
       ·subst e;exact q
       ·exact H.o.2 j h (by omega)
      have Q:=zaa q;clear q H;generalize zs[k]=z at hck Q;go_wp2
      have RB:Hid (∀ w',zB wr w'->RdI w' (.slice (some ⟨b,o,none⟩) k cZ) (zs.take k)):=fun w' hb=>Rd.below RT.o hb
      have SK:Hid (∀ w',zB wr w'->w'.cell? ⟨b,o+k,none⟩=some (.I z)):=fun w' hb=>(hb.cell (p:=⟨b,o+k,none⟩) hblr).trans hck
      go_region_held3 (fun w'=>w'.cell? ⟨b,o+k,none⟩=some (.I z))
       (exact SK.o _ (by repeat (first | exact zR | refine Below.drew ?_)))
       (first
        | (go_at_call 159;refine(znw _ (zs.take k) z _ (RB.o _ (by repeat (first | exact zR | refine Below.drew ?_))) LT.o).mono ?_;rw[Q.o];rintro e w' ⟨rfl,hw'⟩;subst w'))
      all_goals
       clear SK RB hck;go_wp2
       go_roundw
       case rel=>exact⟨k+1,by omega,by go_num,(by repeat (first | exact H1.o | refine Below.drew ?_)),H'.o⟩
       case measure=>simp[intOf];omega
     | true =>
      have E:=zaa (NO.o (zzd hlk q));have Q:=zaa q;clear q H;generalize zs[k]=z at hck Q;go_wp2
      have RB:Hid (∀ w',zB wr w'->RdI w' (.slice (some ⟨b,o,none⟩) k cZ) (zs.take k)):=fun w' hb=>Rd.below RT.o hb
      have SK:Hid (∀ w',zB wr w'->w'.cell? ⟨b,o+k,none⟩=some (.I z)):=fun w' hb=>(hb.cell (p:=⟨b,o+k,none⟩) hblr).trans hck
      go_region_held3 (fun w'=>w'.cell? ⟨b,o+k,none⟩=some (.I z))
       (exact SK.o _ (by repeat (first | exact zR | refine Below.drew ?_)))
       (first
        | (go_at_call 159;refine(znw _ (zs.take k) z _ (RB.o _ (by repeat (first | exact zR | refine Below.drew ?_))) LT.o).mono ?_;rw[Q.o];rintro e w' ⟨rfl,hw'⟩;subst w'))
      all_goals
       clear SK RB hck;go_wp2;go_ret;exact⟨zai E.o.symm,(by repeat (first | exact HF.o | refine Below.drew ?_))⟩
    ·have E:=zaa (JN.o (yagu (fun j h=>H.o.2 j h (by omega))));clear H;go_wp2
     go_roundw
     case rel=>exact⟨t+1,by omega,by go_num,HB.o,E.o⟩
     case measure=>simp[intOf];omega
  ·obtain rfl:t=3:=by omega
   have E:=zaa (show zlh ws=true by
    have e1:zgn (uf 1)=true:=J.o.2 1 (by omega) (by omega);have e2:zgn (uf 2)=true:=J.o.2 2 (by omega) (by omega)
    rw[SG.o,e1,e2];rfl)
   clear J;go_wp2;go_ret;exact⟨zai E.o.symm,JW.o⟩
theorem zby(v:Value)(ws:List Ino)(ps:List Den)(w:World)(h:RdIm w v ws ps)(hw:ws.length<=1048576)(hp:ps.length<=1048576)(hT:TS w)(hE:ED w)(hF:FD w)(hr:∀ k (h:k<ws.length),ws[k].R)(hs:∀ k (h:k<ps.length),ps[k].name.size<=maxLen) :
  zC 24 #[v] w fun e w'=>e=.returned (.bool (zbg ws ps))/\zB w w':=by
 rw[<- yaxf];exact yapa v ws ps w h hw hp hT hE hF hr hs
theorem zsa(v:Value)(ws:List Ino)(ps:List Den)(w:World)(h:RdIm w v ws ps)(hw:ws.length<=1048576)(hp:ps.length<=1048576)(hr:∀ k (h:k<ws.length),ws[k].R)(hs:∀ k (h:k<ps.length),ps[k].name.size<=maxLen) :
  zC 41 #[v] w fun e w'=>e=.returned (.bool (zbg ws ps))/\zB w w':=by
 have HRD:=zaa h;have HR:=zaa hr;have L1:=zaa (fun w1 h=>zyk v ws ps w1 h hw hp);have L2:=zaa (fun w1 h (hl:ws.length=16)=>ztq v ws ps w1 h hl hp hs);have L3:=zaa (fun w1 h (hl:ws.length=16) (o:okNs ws=true)=>zwv v ws ps w1 h hl (fun k hk z hz=>zeq (zrc o k hk z hz)));obtain⟨vW,vP,rfl,h1,h2⟩:=h;obtain⟨aW,cW,rfl,_,hcW⟩:=h1.shape;obtain⟨aP,cP,rfl,_,_⟩:=h2.shape;have HW:=zaa hcW;clear h1 h2 hr hs hcW
 have CA:Hid (∀ w',Below (w.alloc (.cells #[.slice aW ws.length cW,.slice aP ps.length cP] 51)).heap.size (w.alloc (.cells #[.slice aW ws.length cW,.slice aP ps.length cP] 51)) w'->w'.cell? ⟨w.heap.size,0,none⟩=some (.slice aW ws.length cW)/\w'.cell? ⟨w.heap.size,1,none⟩=some (.slice aP ps.length cP)):=fun w' hb=>by
  have:w'.heap[w.heap.size]?=some (.cells #[.slice aW ws.length cW,.slice aP ps.length cP] 51 (0,0)):=(hb.block _ (by simp)).trans (zaf rfl);exact⟨(zac this).1,(zac this).2.1⟩
 have BW:Hid (zB w (w.alloc (.cells #[.slice aW ws.length cW,.slice aP ps.length cP] 51))):=zR.alloc zL _;obtain⟨x0,x1⟩:=CA.o _ zR;have EI:=zaa (show zbg ws ps=(decide (ws.length=16)&&(decide (ps.length=24)&&(zaj ws 0 == 2&&(okNs ws&&(zkj ws ps&&(zhp ws ps&&zlh ws))))))from rfl)
 by_cases c1:ws.length=16
 case neg =>
  have E:=zaa (show zbg ws ps=false by rw[EI.o,decide_eq_false c1];rfl)
  have q:((ws.length:Int) != 16)=true:=by rw[bne_iff_ne];omega
  clear c1;go_enter Tryz.func41,Tryz.ntmps41;go_wp2;go_ret;exact⟨zai E.o.symm,BW.o⟩
 have q:((ws.length:Int) != 16)=false:=by rw[c1];rfl
 by_cases c2:ps.length=24
 case neg =>
  have E:=zaa (show zbg ws ps=false by rw[EI.o,decide_eq_false c2,Bool.false_and,Bool.and_false])
  have q2:((ps.length:Int) != 24)=true:=by rw[bne_iff_ne];omega
  clear c1 c2;go_enter Tryz.func41,Tryz.ntmps41;go_wp2;go_ret;exact⟨zai E.o.symm,BW.o⟩
 have q2:((ps.length:Int) != 24)=false:=by rw[c2];rfl
 obtain⟨bW,oW,rfl,hblW,hcellW⟩:=HW.o (by omega);have HK:=(hcellW 0 (by omega)).1;rw[show ws[0].kind=zaj ws 0 from(zbk (i:=0) (by omega)).symm]at HK;simp only[Nat.zero_mul,Nat.add_zero]at HK;have kk:=(BW.o.cell (p:=⟨bW,oW,none⟩) hblW).trans HK
 have len16:(0:Int)<(ws.length:Int):=by omega
 have C1:=zaa c1;have E1:=zaa (show zbg ws ps=(zaj ws 0 == 2&&(okNs ws&&(zkj ws ps&&(zhp ws ps&&zlh ws)))) by rw[EI.o,decide_eq_true c1,decide_eq_true c2];rfl);have HC:=zaa hcellW;clear c1 c2 EI HK hcellW HW;generalize zaj ws 0=k0 at *
 by_cases c3:k0=2
 case neg =>
  have q3:(k0 != 2)=true:=by rw[bne_iff_ne];exact c3
  have E:=zaa (show zbg ws ps=false by rw[E1.o,show(k0 == 2)=false by rw[beq_eq_false_iff_ne];exact c3];rfl);clear c3;go_enter Tryz.func41,Tryz.ntmps41;go_wp2;go_ret;exact⟨zai E.o.symm,BW.o⟩
 have q3:(k0 != 2)=false:=by rw[c3];rfl
 have E2:=zaa (show zbg ws ps=(okNs ws&&(zkj ws ps&&(zhp ws ps&&zlh ws))) by rw[E1.o,c3];rfl);clear c3 E1;go_enter Tryz.func41,Tryz.ntmps41;go_wp2;clear x0 x1 kk q q2 q3;generalize w.alloc (.cells #[.slice (some ⟨bW,oW,none⟩) ws.length cW,.slice aP ps.length cP] 51)=W at *;have hz:w.heap.size<=W.heap.size:=BW.o.size
 go_loopw [3] (fun i wr=>∃ k:Nat,k<=ws.length/\i=.I k/\Hid (zB W wr/\∀ j (h:j<ws.length),j<k->zed ws[j]=true)) (fun i _=>ws.length-(intOf i).toNat)
 case atStart=>exact⟨0,by omega,rfl,zR,fun j h a=>absurd a (by omega)⟩
 case round =>
  obtain⟨k,hk,rfl,H⟩:=hrel;have H1:=zaa H.o.1;have HF:=zaa (zab BW.o H.o.1 hz);obtain⟨x0,x1⟩:=CA.o wr H.o.1
  by_cases hlt:k<ws.length
  ·obtain⟨a0,a1,a2,a3,a4,a5,a6,a7,a8,a9,a10⟩:=HC.o k hlt;have d0:=(HF.o.cell (p:=⟨bW,oW+k*11,none⟩) hblW).trans a0;have d1:=(HF.o.cell (p:=⟨bW,oW+k*11+1,none⟩) hblW).trans a1;have d2:=(HF.o.cell (p:=⟨bW,oW+k*11+2,none⟩) hblW).trans a2;have d3:=(HF.o.cell (p:=⟨bW,oW+k*11+3,none⟩) hblW).trans a3;have d4:=(HF.o.cell (p:=⟨bW,oW+k*11+4,none⟩) hblW).trans a4;have d5:=(HF.o.cell (p:=⟨bW,oW+k*11+5,none⟩) hblW).trans a5;have d6:=(HF.o.cell (p:=⟨bW,oW+k*11+6,none⟩) hblW).trans a6;have d7:=(HF.o.cell (p:=⟨bW,oW+k*11+7,none⟩) hblW).trans a7;have d8:=(HF.o.cell (p:=⟨bW,oW+k*11+8,none⟩) hblW).trans a8;have d9:=(HF.o.cell (p:=⟨bW,oW+k*11+9,none⟩) hblW).trans a9;have d10:=(HF.o.cell (p:=⟨bW,oW+k*11+10,none⟩) hblW).trans a10
   have k0':(0:Int)<=(k:Int):=by omega
   have k1:(k:Int)<(ws.length:Int):=by omega
   have LI:=zaa (fun w1=>yaan ws[k] w1 (HR.o k hlt))
   have H2:Hid (zed ws[k]=true->∀ j (h:j<ws.length),j<k+1->zed ws[j]=true):=fun q j h a=>by
    by_cases e:j=k
    ·subst e;exact q
    ·exact H.o.2 j h (by omega)
   have H3:=zaa (fun q=>yahn hlt q);clear a0 a1 a2 a3 a4 a5 a6 a7 a8 a9 a10 H;generalize ws[k]=x at d0 d1 d2 d3 d4 d5 d6 d7 d8 d9 d10 LI H2 H3
   cases qq:zed x with
   | true =>
    rw[qq]at LI;have E:=zaa (H2.o qq);clear H2 H3 qq;go_wp2_with fail;refine(LI.o _).mono ?_;rintro e w1 ⟨rfl,hb1⟩;have B3:=zaa (zab H1.o hb1 H1.o.size);clear hb1 d0 d1 d2 d3 d4 d5 d6 d7 d8 d9 d10 x0 x1;go_wp2
    go_roundw
    case rel=>exact⟨k+1,by omega,by go_num,B3.o,E.o⟩
    case measure=>simp[intOf];omega
   | false =>
    rw[qq]at LI;have E:=zaa (show zbg ws ps=false by rw[E2.o,H3.o qq];rfl);clear H2 H3 qq;go_wp2_with fail;refine(LI.o _).mono ?_;rintro e w1 ⟨rfl,hb1⟩;have B3:=zaa (zab HF.o hb1 HF.o.size);clear hb1 d0 d1 d2 d3 d4 d5 d6 d7 d8 d9 d10 x0 x1;go_wp2;go_ret;exact⟨zai E.o.symm,B3.o⟩
  ·have O:=zaa (yanp (fun j h=>H.o.2 j h (by omega)));have E3:=zaa (show zbg ws ps=(zkj ws ps&&(zhp ws ps&&zlh ws)) by rw[E2.o,O.o];rfl);clear H;generalize zkj ws ps=f1 at *;generalize zhp ws ps=f2 at *;generalize zlh ws=f3 at *;go_wp2_with fail;refine(L2.o _ (HRD.o.below HF.o) C1.o).mono ?_;rintro e w1 ⟨rfl,hb1⟩;have B1:=zaa (zab HF.o hb1 HF.o.size);have BA:=zaa (zab H1.o hb1 H1.o.size);clear hb1 x0 x1
   cases f1 with
   | false =>
    go_wp2;go_ret;exact⟨zai (by rw[E3.o];rfl),B1.o⟩
   | true =>
   obtain⟨x0,x1⟩:=CA.o _ BA.o;go_wp2_with fail;refine(L1.o _ (HRD.o.below B1.o)).mono ?_;rintro e w2 ⟨rfl,hb2⟩;have B2:=zaa (zab B1.o hb2 B1.o.size);have BB:=zaa (zab BA.o hb2 BA.o.size);clear hb2 x0 x1
   cases f2 with
   | false =>
    go_wp2;go_ret;exact⟨zai (by rw[E3.o];rfl),B2.o⟩
   | true =>
   obtain⟨x0,x1⟩:=CA.o _ BB.o;go_wp2_with fail;refine(L3.o _ (HRD.o.below B2.o) C1.o O.o).mono ?_;rintro e w3 ⟨rfl,hb3⟩;have B3:=zaa (zab B2.o hb3 B2.o.size);clear hb3 x0 x1;go_wp2;go_ret;exact⟨zai (by rw[E3.o];rfl),B3.o⟩
def ziv(ps:List Den):Nat->Int->Int->Bool
 | 0,_,_=>false
 | n+1,a,b=>if a<0 then false else if a=b then true else ziv ps n (upD ps a) b
theorem zhk(ps:List Den)(n:Nat)(a b:Int):ziv ps (n+1) a b=if a<0 then false else if a=b then true else ziv ps n (upD ps a) b:=rfl
theorem zwn(ps:List Den):∀ (n:Nat) (a b:Int),a<0->ziv ps n a b=false
 | 0,_,_,_=>rfl
 | n+1,a,b,h=>by rw[zhk,if_pos h]
theorem zex(ps:List Den)(n:Nat)(d:Int):zcz ps (n+1) d=if d=0 then true else if upD ps d<0 then false else zcz ps n (upD ps d):=rfl
theorem zga(ps:List Den)(d:Int):zcz ps 0 d=false:=rfl
theorem zuf{ps:List Den}:∀ (k:Nat) (x:Int),zcz ps k x=true->zcz ps (k+1) x=true
 | 0,x,h=>by rw[zga]at h;cases h
 | k+1,x,h=>by
  rw[zex]at h ⊢
  by_cases q:x=0
  ·rw[if_pos q]
  ·rw[if_neg q]at h ⊢
   by_cases r:upD ps x<0
   ·rw[if_pos r]at h;cases h
   ·rw[if_neg r]at h ⊢;exact zuf k _ h
theorem zwp{ps:List Den}(u0:upD ps 0=-1):∀ (k n:Nat) (a b:Int),zcz ps k a=true->0<=a->k<=n->ziv ps n a b=ziv ps k a b
 | 0,_,_,_,h,_,_=>by rw[zga]at h;cases h
 | k+1,0,_,_,_,_,hn=>absurd hn (by omega)
 | k+1,n+1,a,b,h,ha,hn=>by
  have n0:¬ a<0:=by omega
  rw[zhk,zhk,if_neg n0,if_neg n0]
  by_cases q:a=b
  ·rw[if_pos q,if_pos q]
  ·rw[if_neg q,if_neg q];rw[zex]at h
   by_cases r:a=0
   ·subst r;rw[u0,zwn ps n (-1) b (by omega),zwn ps k (-1) b (by omega)]
   ·rw[if_neg r]at h
    by_cases s:upD ps a<0
    ·rw[if_pos s]at h;cases h
    ·rw[if_neg s]at h;exact zwp u0 k n _ _ h (by omega) (by omega)
theorem zhv{ps:List Den}{k:Nat}{x:Int}(h:zcz ps (k+1) x=true)(q:¬ x=0):0<=upD ps x/\zcz ps k (upD ps x)=true:=by
 rw[zex,if_neg q]at h
 by_cases r:upD ps x<0
 ·rw[if_pos r]at h;cases h
 ·rw[if_neg r]at h;exact⟨by omega,h⟩
theorem zas{ws:List Ino}{ps:List Den}(h:zbg ws ps=true):ws.length=16/\ps.length=24/\zaj ws 0=2/\okNs ws=true/\zkj ws ps=true/\zhp ws ps=true/\zlh ws=true:=by
 unfold zbg at h;simp only[Bool.and_eq_true,decide_eq_true_eq,beq_iff_eq]at h;exact h
theorem zgw{ws:List Ino}{ps:List Den}(h:zbg ws ps=true)(i:Nat)(hi:i<ps.length):(ps[i].child=-1/\ps[i].name.size=0)\/((1<=ps[i].child/\ps[i].child<=15)/\(0<=ps[i].dir/\ps[i].dir<=15)/\nmB ps[i].name=true/\¬ zaj ws ps[i].child=0/\zaj ws ps[i].dir=2):=by
 obtain⟨_,_,_,_,he,_,_⟩:=zas h;have e:=(of_decide_eq_true he:∀ i (h:i<ps.length),zdk ws ps i ps[i]=true) i hi;unfold zdk at e
 split at e
 ·rename_i c;left;refine⟨c,?_⟩;unfold Den.freeB at e;simp only[Bool.and_eq_true,beq_iff_eq]at e;have:=e.2.1
  first
   | exact this
   | simpa using this
   | (simp at this;rw[this];rfl)
 ·right;simp only[Bool.and_eq_true,decide_eq_true_eq,Bool.not_eq_true',beq_eq_false_iff_ne,beq_iff_eq]at e;exact⟨e.1,e.2.1,e.2.2.1,e.2.2.2.1,e.2.2.2.2.1⟩
theorem yaky{ws:List Ino}{ps:List Den}(h:zbg ws ps=true):upD ps 0=-1:=by
 apply yapd;intro j hj e
 rcases zgw h j hj with q | q
 ·omega
 ·omega
theorem yahq{ws:List Ino}{ps:List Den}(h:zbg ws ps=true){i:Int}(h0:0<=i/\i<=15)(hk:zaj ws i=2):zcz ps 16 i=true:=by
 obtain⟨hl,_,_,_,_,hL,_⟩:=zas h
 obtain⟨n,rfl⟩:∃ n:Nat,i=(n:Int):=⟨i.toNat,by omega⟩
 have hn:n<ws.length:=by omega
 have:=(of_decide_eq_true hL:∀ i (h:i<ws.length),zil ps i ws[i]=true) n hn;unfold zil at this;rw[zbk hn]at hk;simp only[Bool.and_eq_true,Bool.or_eq_true,decide_eq_true_eq]at this
 rcases this.2 with q | q
 ·exact absurd hk q
 ·exact q
def beC(ws:List Ino)(ps:List Den)(a b:Int):Int:=if zbg ws ps=true then(if (0<=a/\a<=15)/\(0<=b/\b<=15) then(if zaj ws a=2/\zaj ws b=2 then 0 else 10)else 4)else 1
def beV(ws:List Ino)(ps:List Den)(a b:Int):Bool:=if beC ws ps a b=0 then ziv ps 17 a b else false
end Go.Proofs.YtogcbbkhnpmgeaaGreatDoor
