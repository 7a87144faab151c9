/- Several texts laid together: PiO, ImO, ImP, PmSeen. -/
import Derived.Test.YtahiphgmhndgaaaGreatDoorZAR
import Derived.Test.YtahiphgmhndgaaaGreatDoorZAS
import Derived.Test.YtahiphgmhndgaaaGreatDoorZAE
set_option maxRecDepth 100000
set_option maxHeartbeats 8000000
namespace Go.Proofs.YtahiphgmhndgaaaGreatDoor
open Go.RowKit
def pimB (ws:List Ino) (ps:List Den):Bool:=zhe ws ps && (zco ws 0 == 2 && (zqw ws (zap ps) && (zov ((zap ps).map ziw) && (lcB ws (zap ps) && (dhB ws (zap ps) && zfy (zbj ws))))))
theorem yafg {ws:List Ino} {ps:List Den} (h:zhe ws ps=true):ws.length=16∧ps.length=24∧okNs ws=true∧okDs ps=true:=by
 unfold zhe at h;simp only[Bool.and_eq_true,decide_eq_true_eq] at h;exact h
theorem yaah {ps:List Den} (h:okDs ps=true):∀ k (h:k < (zap ps).length),(0≤(zap ps)[k].child∧(zap ps)[k].child≤15)∧(0≤(zap ps)[k].dir∧(zap ps)[k].dir≤15):=by
 have h:=of_decide_eq_true h;intro k hk;obtain ⟨hm,hf⟩:=List.mem_filter.1 (List.getElem_mem hk);obtain ⟨i,hi,e⟩:=List.getElem_of_mem hm;have o:=h i hi;rw[e] at o;have c:=znz o (fun q=>by rw[(zua o).2 q] at hf;cases hf);exact ⟨by omega,c.2.1⟩
theorem yalp (v:Value) (ws:List Ino) (ps:List Den) (w:World) (h:RdIm w v ws ps) (hw:ws.length≤1048576) (hp:ps.length≤1048576) (hT:TS w) (hE:ED w) (hF:FD w) (hr:∀ k (h:k < ws.length),ws[k].R) (hs:∀ k (h:k < ps.length),ps[k].name.size≤maxLen) :
  Calls Tryz.prog 164 #[v] w fun e w'=>e=.returned (.bool (pimB ws ps))∧Below w.heap.size w w':=by
 have LP:=zaa (fun w1 (hb:Below w.heap.size w w1)=>yaad v ws ps w1 (h.below hb) hw hp (hT.below hb) (hE.below hb) (hF.below hb) hr hs);obtain ⟨vW,vP,rfl,h1,h2⟩:=h;have RW:=zaa h1;have RP:=zaa h2;obtain ⟨aW,cW,rfl,_,hcW⟩:=h1.shape;obtain ⟨aP,cP,rfl,_,_⟩:=h2.shape;have BW:=zaa ((Below.refl w.heap.size w).alloc (Nat.le_refl _) (.cells #[.slice aW ws.length cW,.slice aP ps.length cP] 102))
 have CA:Hid (∀ w',Below (w.alloc (.cells #[.slice aW ws.length cW,.slice aP ps.length cP] 102)).heap.size (w.alloc (.cells #[.slice aW ws.length cW,.slice aP ps.length cP] 102)) w'→w'.cell? ⟨w.heap.size,0,none⟩=some (.slice aW ws.length cW)∧w'.cell? ⟨w.heap.size,1,none⟩=some (.slice aP ps.length cP)):=fun w' hb=>by
  have:w'.heap[w.heap.size]?=some (.cells #[.slice aW ws.length cW,.slice aP ps.length cP] 102 (0,0)):=(hb.block _ (by simp)).trans (zag rfl);exact ⟨(zad this).1,(zad this).2.1⟩
 obtain ⟨x0,x1⟩:=CA.o _ (Below.refl _ _);have F:=zaa hF;clear h1 h2 hT hE hF hr hs
 cases c1:zhe ws ps with
 | false =>
  have E:=zaa (show pimB ws ps=false by unfold pimB;rw[c1];rfl);rw[c1] at LP;clear c1 hcW;go_enter Tryz.func164,Tryz.ntmps164;go_wp2_with fail;refine (LP.o _ BW.o).mono ?_;rintro e w1 ⟨rfl,hb1⟩;have B1:=zaa (zab BW.o hb1 BW.o.size);clear hb1 x0 x1;go_wp2;go_ret;exact ⟨zae E.o.symm,B1.o⟩
 | true =>
 obtain ⟨l1,l2,o1,o2⟩:=yafg c1;have E0:=zaa (show pimB ws ps=(zco ws 0 == 2 && (zqw ws (zap ps) && (zov ((zap ps).map ziw) && (lcB ws (zap ps) && (dhB ws (zap ps) && zfy (zbj ws)))))) by unfold pimB;rw[c1,Bool.true_and]);rw[c1] at LP;obtain ⟨bW,oW,rfl,hblW,hcellW⟩:=hcW (by omega);have HK:=(hcellW 0 (by omega)).1;rw[show ws[0].kind=zco ws 0 from (zes (i:=0) (by omega)).symm] at HK;simp only[Nat.zero_mul,Nat.add_zero] at HK
 have KK:Hid (∀ w',Below w.heap.size w w'→w'.cell? ⟨bW,oW,none⟩=some (.int .i64 (zco ws 0))):=fun w' hb=>(hb.cell (p:=⟨bW,oW,none⟩) hblW).trans HK
 have TR:=zaa (yaah o2)
 have tl:(zap ps).length≤24:=by have:=zyq ps;omega
 have ml:(zbj ws).length≤128:=by have:=zly ws;omega
 have len16:(0:Int) < (ws.length:Int):=by omega
 have L1:=zaa l1;have L2:=zaa l2;have LT:=zaa (fun w1 (hb:Below w.heap.size w w1)=>znp (.slice aP ps.length cP) ps w1 (Rd.below RP.o hb) (by omega) (F.o.below hb));have LM:=zaa (fun w1 (hb:Below w.heap.size w w1)=>zme (.slice (some ⟨bW,oW,none⟩) ws.length cW) ws w1 (Rd.below RW.o hb) (by omega));have LK:=zaa (fun v w1 (hb:Below w.heap.size w w1) h=>zyn (.slice (some ⟨bW,oW,none⟩) ws.length cW) v ws (zap ps) w1 (Rd.below RW.o hb) h l1 (by omega) TR.o);have LC:=zaa (fun v w1 (hb:Below w.heap.size w w1) h=>znl (.slice (some ⟨bW,oW,none⟩) ws.length cW) v ws (zap ps) w1 (Rd.below RW.o hb) h l1 (by omega) (fun k hk=>(TR.o k hk).1));have LH:=zaa (fun v w1 (hb:Below w.heap.size w w1) h=>zjn (.slice (some ⟨bW,oW,none⟩) ws.length cW) v ws (zap ps) w1 (Rd.below RW.o hb) h l1 (by omega) TR.o);have LO:=zaa (fun v w1 h=>zug v (zap ps) w1 h (by omega));have LI:=zaa (fun v w1 h=>znt v (zbj ws) w1 h (by omega));clear l1 l2 o1 o2 c1 hcW hcellW HK TR F RP RW;generalize zco ws 0=k0 at *;generalize zap ps=ts at *;generalize zbj ws=ms at *;generalize zqw ws ts=f1 at *;generalize zov (ts.map ziw)=f2 at *;generalize lcB ws ts=f3 at *;generalize dhB ws ts=f4 at *;generalize zfy ms=f5 at *
 by_cases c2:k0=2
 case neg =>
  have q:(k0 != 2)=true:=by rw[bne_iff_ne];exact c2
  have E:=zaa (show pimB ws ps=false by rw[E0.o,show (k0 == 2)=false by rw[beq_eq_false_iff_ne];exact c2];rfl);clear c2;go_enter Tryz.func164,Tryz.ntmps164;go_wp2_with fail;refine (LP.o _ BW.o).mono ?_;rintro e w1 ⟨rfl,hb1⟩;have B1:=zaa (zab BW.o hb1 BW.o.size);clear x0 x1;obtain ⟨x0,x1⟩:=CA.o _ hb1;have kk:=KK.o _ B1.o;clear hb1;go_wp2;go_ret;exact ⟨zae E.o.symm,B1.o⟩
 have q:(k0 != 2)=false:=by rw[c2];rfl
 have E1:=zaa (show pimB ws ps=(f1 && (f2 && (f3 && (f4 && f5)))) by rw[E0.o,c2];rfl);clear c2 E0;go_enter Tryz.func164,Tryz.ntmps164;go_wp2_with fail;refine (LP.o _ BW.o).mono ?_;rintro e w1 ⟨rfl,hb1⟩;have B1:=zaa (zab BW.o hb1 BW.o.size);have BA:=zaa hb1;clear x0 x1 LP;obtain ⟨x0,x1⟩:=CA.o _ hb1;have kk:=KK.o _ B1.o;clear hb1;go_wp2_with fail;refine (LT.o _ B1.o).mono ?_;rintro e w2 ⟨v2,rfl,hr2,hb2⟩;obtain ⟨-,aT,cT,hvT,-⟩:=hr2.rd;subst hvT;have hz1:w.heap.size≤w1.heap.size:=B1.o.size;have hz2:w1.heap.size≤w2.heap.size:=hb2.size;have R2:=zaa hr2.rd;have B2:=zaa (zab B1.o hb2 hz1);have BA2:=zaa (zab BA.o hb2 BA.o.size);clear hr2 x0 x1 kk B1 BA KK LT hb2;obtain ⟨x0,x1⟩:=CA.o _ BA2.o;go_wp2_with fail;refine (LK.o _ _ B2.o R2.o).mono ?_;rintro e w3 ⟨rfl,hb3⟩;have hz3:w2.heap.size≤w3.heap.size:=hb3.size;have R3:=zaa (Rd.below R2.o hb3);have B3:=zaa (zab B2.o hb3 (by omega));have BA3:=zaa (zab BA2.o hb3 (by have:=BA2.o.size;omega));clear hb3 x0 x1 R2 B2 BA2
 cases f1 with
 | false =>
  go_wp2;go_ret;exact ⟨zae (by rw[E1.o];rfl),B3.o⟩
 | true =>
 go_wp2_with fail;refine (LO.o _ _ R3.o).mono ?_;rintro e w4 ⟨rfl,hb4⟩;have hz4:w3.heap.size≤w4.heap.size:=hb4.size;have R4:=zaa (Rd.below R3.o hb4);have B4:=zaa (zab B3.o hb4 (by omega));have BA4:=zaa (zab BA3.o hb4 (by have:=BA3.o.size;omega));clear hb4 R3 B3 BA3
 cases f2 with
 | false =>
  go_wp2;go_ret;exact ⟨zae (by rw[E1.o];rfl),B4.o⟩
 | true =>
 obtain ⟨x0,x1⟩:=CA.o _ BA4.o;go_wp2_with fail;refine (LC.o _ _ B4.o R4.o).mono ?_;rintro e w5 ⟨rfl,hb5⟩;have hz5:w4.heap.size≤w5.heap.size:=hb5.size;have R5:=zaa (Rd.below R4.o hb5);have B5:=zaa (zab B4.o hb5 (by omega));have BA5:=zaa (zab BA4.o hb5 (by have:=BA4.o.size;omega));clear hb5 x0 x1 R4 B4 BA4
 cases f3 with
 | false =>
  go_wp2;go_ret;exact ⟨zae (by rw[E1.o];rfl),B5.o⟩
 | true =>
 obtain ⟨x0,x1⟩:=CA.o _ BA5.o;go_wp2_with fail;refine (LH.o _ _ B5.o R5.o).mono ?_;rintro e w6 ⟨rfl,hb6⟩;have hz6:w5.heap.size≤w6.heap.size:=hb6.size;have B6:=zaa (zab B5.o hb6 (by omega));have BA6:=zaa (zab BA5.o hb6 (by have:=BA5.o.size;omega));clear hb6 x0 x1 R5 B5 BA5
 cases f4 with
 | false =>
  go_wp2;go_ret;exact ⟨zae (by rw[E1.o];rfl),B6.o⟩
 | true =>
 obtain ⟨x0,x1⟩:=CA.o _ BA6.o;go_wp2_with fail;refine (LM.o _ B6.o).mono ?_;rintro e w7 ⟨v7,rfl,hr7,hb7⟩;obtain ⟨-,aM,cM,hvM,-⟩:=hr7.rd;subst hvM;have B7:=zaa (zab B6.o hb7 (by omega));have R7:=zaa hr7.rd;clear hb7 hr7 x0 x1 B6 BA6;go_wp2_with fail;refine (LI.o _ _ R7.o).mono ?_;rintro e w' ⟨rfl,hw'⟩;subst w';go_wp2;go_ret;exact ⟨zae (by rw[E1.o];rfl),B7.o⟩
def zqg (ws:List Ino):Bool:=zfy (zdh (zbj ws) 1) && zfy (zdh (zbj ws) 2)
def zti (ws:List Ino) (ps:List Den):Bool:=decide (ws.length=16) && (decide (ps.length=24) && (zco ws 0 == 2 && (okNs ws && (zks ws ps && (zhy ws ps && zqg ws)))))
theorem yaeh {x:Ino} (h:zit x=true):(∀ z∈x.map,zjk z=true)∧(x.kind=2→x.links=1):=by
 unfold zit at h;simp only[Bool.and_eq_true,decide_eq_true_eq] at h;obtain ⟨_,_,_,d,f⟩:=h;refine ⟨fun z hz=>?_,fun k=>?_⟩
 ·obtain ⟨i,hi,rfl⟩:=List.getElem_of_mem hz;have:=ztu d i hi;rw[List.getD_eq_getElem?_getD,List.getElem?_eq_getElem hi] at this;unfold entB at this;simp only[Option.getD_some,Bool.and_eq_true] at this;exact this.1
 ·unfold zlh at f;rw[if_neg (by omega),if_pos k] at f;simp only[Bool.and_eq_true,beq_iff_eq] at f;exact f.2
theorem yaip {z:Int} (h:zjk z=true):0≤z∧z≤1048576:=by
 unfold zjk znj at h;simp only[Bool.and_eq_true,decide_eq_true_eq] at h;omega
theorem zze {ws:List Ino} (h:okNs ws=true):∀ i (h:i < ws.length),∀ z∈ws[i].map,zjk z=true:=fun i hi=>(yaeh ((of_decide_eq_true h:∀ k (h:k < ws.length),zit ws[k]=true) i hi)).1
theorem yarp (ws:List Ino) (ps:List Den):pimB ws ps=zti ws ps:=by
 unfold pimB zti zhe
 by_cases l1:ws.length=16
 case neg=>simp[l1]
 by_cases l2:ps.length=24
 case neg=>simp[l2]
 rw[decide_eq_true l1,decide_eq_true l2,Bool.true_and,Bool.true_and,Bool.true_and,Bool.true_and]
 cases o1:okNs ws
 ·simp
 cases o2:okDs ps
 ·have:zks ws ps=false:=by
   rw[Bool.eq_false_iff];intro e;rw[yatc e] at o2
   cases o2
  rw[this];simp
 rw[yass o2]
 cases f1:zqw ws (zap ps)
 ·simp
 cases f2:zov ((zap ps).map ziw)
 ·simp
 rw[yapk l1 (fun i hi=>(yaeh ((of_decide_eq_true o1:∀ k (h:k < ws.length),zit ws[k]=true) i hi)).2) o2 f1];have s1:zqg ws=zfy (zbj ws):=yajt (fun e he=>(yaak (zze o1) e he).2);rw[s1];simp[Bool.and_assoc]
theorem zux (v:Value) (ws:List Ino) (ps:List Den) (w:World) (h:RdIm w v ws ps) (hn:ws.length=16) (hr:∀ k (h:k < ws.length),∀ z∈ws[k].map,0≤z∧z≤1048576) :
  Calls Tryz.prog 158 #[v] w fun e w'=>e=.returned (.bool (zqg ws))∧Below w.heap.size w w':=by
 have HR:=zaa h;have LU:=zaa (fun t w1 h=>yaas v ws ps t w1 h (by omega) hr);have UL:=zaa (fun t=>show (zdh (zbj ws) t).length≤128 by have:=ztg (zbj ws) t;have:=zly ws;omega);obtain ⟨vW,vP,rfl,h1,h2⟩:=h;obtain ⟨aW,cW,rfl,_,_⟩:=h1.shape;obtain ⟨aP,cP,rfl,_,_⟩:=h2.shape;clear h1 h2 hr hn
 obtain ⟨W,hW⟩:∃ W,W=w.alloc (.cells #[.slice aW ws.length cW,.slice aP ps.length cP] 102):=⟨_,rfl⟩
 have CA:Hid (∀ w',Below W.heap.size W w'→w'.cell? ⟨w.heap.size,0,none⟩=some (.slice aW ws.length cW)∧w'.cell? ⟨w.heap.size,1,none⟩=some (.slice aP ps.length cP)):=fun w' hb=>by
  have:w'.heap[w.heap.size]?=some (.cells #[.slice aW ws.length cW,.slice aP ps.length cP] 102 (0,0)):=(hb.block _ (by rw[hW];simp)).trans (by rw[hW];exact zag rfl);exact ⟨(zad this).1,(zad this).2.1⟩
 have BW:Hid (Below w.heap.size w W):=by rw[hW];exact (Below.refl _ _).alloc (Nat.le_refl _) _
 have hz:w.heap.size≤W.heap.size:=BW.o.size;have SG:=zaa (show zqg ws=(zfy (zdh (zbj ws) 1) && zfy (zdh (zbj ws) 2)) from rfl);generalize zdh (zbj ws)=uf at *;go_enter Tryz.func158,Tryz.ntmps158;go_wp2;rw[← hW];clear hW
 go_loopw [3] (fun i wr=>∃ t:Nat,(1≤t∧t≤3)∧i=.int .i64 t∧Hid (Below W.heap.size W wr∧∀ s:Nat,1≤s→s < t→zfy (uf (s:Int))=true)) (fun i _=>3 - (intOf i).toNat)
 case atStart=>exact ⟨1,by omega,rfl,Below.refl _ _,fun s h a=>absurd a (by omega)⟩
 case round =>
  obtain ⟨t,ht,rfl,J⟩:=hrel;have J1:=zaa J.o.1;have JW:=zaa (zab BW.o J.o.1 hz);obtain ⟨x0,x1⟩:=CA.o wr J.o.1
  by_cases hlt:t≤2
  ·have t2:(t:Int)≤2:=by omega
   have t1:(0:Int)≤(t:Int):=by omega
   have JS:=zaa J.o.2
   have NO:Hid (zfy (uf (t:Int))=false→zqg ws=false):=fun q=>by
    rw[SG.o]
    rcases (show t=1∨t=2 by omega) with rfl | rfl
    ·rw[show ((1:Nat):Int)=1 from rfl] at q;rw[q];rfl
    ·rw[show ((2:Nat):Int)=2 from rfl] at q;rw[q,Bool.and_false]
   clear J;go_wp2_with fail;refine (LU.o _ _ (HR.o.below JW.o)).mono ?_;rintro e w1 ⟨v1,rfl,hr1,hb1⟩;obtain ⟨-,aL,cL,hvL,hcap,-⟩:=hr1.rd;have hcap1:=hcap.1;subst hvL;have R1:Hid (RdI w1 (.slice aL (uf (t:Int)).length cL) (uf (t:Int))):=hr1.rd;have B1:=zaa (zab J1.o hb1 J1.o.size);have B2:=zaa (zab BW.o B1.o hz);have ul:=UL.o (t:Int)
   have JN:Hid (zfy (uf (t:Int))=true→∀ s:Nat,1≤s→s < t+1→zfy (uf (s:Int))=true):=fun q s h a=>by
    by_cases e:s=t
    ·subst e;exact q
    ·exact JS.o s h (by omega)
   clear hr1 hb1 x0 x1 hcap JS;generalize uf (t:Int)=zs at *;obtain ⟨aZ,cZ,e,_,hcZ⟩:=R1.o.shape;have HZ:=zaa hcZ
   obtain ⟨rfl,rfl⟩:aZ=aL∧cZ=cL:=by cases e;exact ⟨rfl,rfl⟩
   clear e hcZ;go_wp2
   go_loopw [5] (fun i wq=>∃ k:Nat,k≤zs.length∧i=.int .i64 k∧Hid (Below w1.heap.size w1 wq∧∀ j (h:j < zs.length),j < k→zru (zs.take j) zs[j]=false)) (fun i _=>zs.length - (intOf i).toNat)
   case atStart=>exact ⟨0,by omega,rfl,Below.refl _ _,fun j h a=>absurd a (by omega)⟩
   case round =>
    obtain ⟨k,hk,rfl,H⟩:=hrel
    have k0:(0:Int)≤(k:Int):=by omega
    have H1:=zaa H.o.1;have HB:=zaa (zab B1.o H.o.1 B1.o.size);have HF:=zaa (zab B2.o H.o.1 B2.o.size)
    by_cases hlk:k < zs.length
    ·obtain ⟨b,o,rfl,hbl,hcell⟩:=HZ.o (by omega);have hck:=(H1.o.cell (p:=⟨b,o+k,none⟩) hbl).trans (hcell k hlk)
     have k1:(k:Int) < (zs.length:Int):=by omega
     have k2:(k:Int)≤(cZ:Int):=by omega
     have hblr:b < wr.heap.size:=by have:=H1.o.size;omega
     have RT:=zaa (RdI.take (Rd.below R1.o H1.o) hk);have LT:=zaa (show (zs.take k).length≤1048576 by rw[List.length_take];omega);clear hcell
     cases q:zru (zs.take k) zs[k] with
     | false =>
      have H':Hid (∀ j (h:j < zs.length),j < k+1→zru (zs.take j) zs[j]=false):=fun j h a=>by
       by_cases e:j=k
       ·subst e;exact q
       ·exact H.o.2 j h (by omega)
      have Q:=zaa q;clear q H;generalize zs[k]=z at hck Q;go_wp2
      have RB:Hid (∀ w',Below wr.heap.size wr w'→RdI w' (.slice (some ⟨b,o,none⟩) k cZ) (zs.take k)):=fun w' hb=>Rd.below RT.o hb
      have SK:Hid (∀ w',Below wr.heap.size wr w'→w'.cell? ⟨b,o+k,none⟩=some (.int .i64 z)):=fun w' hb=>(hb.cell (p:=⟨b,o+k,none⟩) hblr).trans hck
      go_region_held3 (fun w'=>w'.cell? ⟨b,o+k,none⟩=some (.int .i64 z))
       (exact SK.o _ (by repeat (first | exact Below.refl _ _ | refine Below.drew ?_)))
       (first
        | (go_at_call 184;refine (zsu _ (zs.take k) z _ (RB.o _ (by repeat (first | exact Below.refl _ _ | refine Below.drew ?_))) LT.o).mono ?_;rw[Q.o];rintro e w' ⟨rfl,hw'⟩;subst w'))
      all_goals
       clear SK RB hck;go_wp2
       go_roundw
       case rel=>exact ⟨k+1,by omega,by go_num,(by repeat (first | exact H1.o | refine Below.drew ?_)),H'.o⟩
       case measure=>simp[intOf];omega
     | true =>
      have E:=zaa (NO.o (zys hlk q));have Q:=zaa q;clear q H;generalize zs[k]=z at hck Q;go_wp2
      have RB:Hid (∀ w',Below wr.heap.size wr w'→RdI w' (.slice (some ⟨b,o,none⟩) k cZ) (zs.take k)):=fun w' hb=>Rd.below RT.o hb
      have SK:Hid (∀ w',Below wr.heap.size wr w'→w'.cell? ⟨b,o+k,none⟩=some (.int .i64 z)):=fun w' hb=>(hb.cell (p:=⟨b,o+k,none⟩) hblr).trans hck
      go_region_held3 (fun w'=>w'.cell? ⟨b,o+k,none⟩=some (.int .i64 z))
       (exact SK.o _ (by repeat (first | exact Below.refl _ _ | refine Below.drew ?_)))
       (first
        | (go_at_call 184;refine (zsu _ (zs.take k) z _ (RB.o _ (by repeat (first | exact Below.refl _ _ | refine Below.drew ?_))) LT.o).mono ?_;rw[Q.o];rintro e w' ⟨rfl,hw'⟩;subst w'))
      all_goals
       clear SK RB hck;go_wp2;go_ret;exact ⟨zae E.o.symm,(by repeat (first | exact HF.o | refine Below.drew ?_))⟩
    ·have E:=zaa (JN.o (yadx (fun j h=>H.o.2 j h (by omega))));clear H;go_wp2
     go_roundw
     case rel=>exact ⟨t+1,by omega,by go_num,HB.o,E.o⟩
     case measure=>simp[intOf];omega
  ·obtain rfl:t=3:=by omega
   have E:=zaa (show zqg ws=true by
    have e1:zfy (uf 1)=true:=J.o.2 1 (by omega) (by omega);have e2:zfy (uf 2)=true:=J.o.2 2 (by omega) (by omega)
    rw[SG.o,e1,e2];rfl)
   clear J;go_wp2;go_ret;exact ⟨zae E.o.symm,JW.o⟩
theorem zhr (v:Value) (ws:List Ino) (ps:List Den) (w:World) (h:RdIm w v ws ps) (hw:ws.length≤1048576) (hp:ps.length≤1048576) (hT:TS w) (hE:ED w) (hF:FD w) (hr:∀ k (h:k < ws.length),ws[k].R) (hs:∀ k (h:k < ps.length),ps[k].name.size≤maxLen) :
  Calls Tryz.prog 164 #[v] w fun e w'=>e=.returned (.bool (zti ws ps))∧Below w.heap.size w w':=by
 rw[← yarp];exact yalp v ws ps w h hw hp hT hE hF hr hs
theorem zpi (v:Value) (ws:List Ino) (ps:List Den) (w:World) (h:RdIm w v ws ps) (hw:ws.length≤1048576) (hp:ps.length≤1048576) (hr:∀ k (h:k < ws.length),ws[k].R) (hs:∀ k (h:k < ps.length),ps[k].name.size≤maxLen) :
  Calls Tryz.prog 111 #[v] w fun e w'=>e=.returned (.bool (zti ws ps))∧Below w.heap.size w w':=by
 have HRD:=zaa h;have HR:=zaa hr;have L1:=zaa (fun w1 h=>zvt v ws ps w1 h hw hp);have L2:=zaa (fun w1 h (hl:ws.length=16)=>zqs v ws ps w1 h hl hp hs);have L3:=zaa (fun w1 h (hl:ws.length=16) (o:okNs ws=true)=>zux v ws ps w1 h hl (fun k hk z hz=>yaip (zze o k hk z hz)));obtain ⟨vW,vP,rfl,h1,h2⟩:=h;obtain ⟨aW,cW,rfl,_,hcW⟩:=h1.shape;obtain ⟨aP,cP,rfl,_,_⟩:=h2.shape;have HW:=zaa hcW;clear h1 h2 hr hs hcW
 have CA:Hid (∀ w',Below (w.alloc (.cells #[.slice aW ws.length cW,.slice aP ps.length cP] 102)).heap.size (w.alloc (.cells #[.slice aW ws.length cW,.slice aP ps.length cP] 102)) w'→w'.cell? ⟨w.heap.size,0,none⟩=some (.slice aW ws.length cW)∧w'.cell? ⟨w.heap.size,1,none⟩=some (.slice aP ps.length cP)):=fun w' hb=>by
  have:w'.heap[w.heap.size]?=some (.cells #[.slice aW ws.length cW,.slice aP ps.length cP] 102 (0,0)):=(hb.block _ (by simp)).trans (zag rfl);exact ⟨(zad this).1,(zad this).2.1⟩
 have BW:Hid (Below w.heap.size w (w.alloc (.cells #[.slice aW ws.length cW,.slice aP ps.length cP] 102))):=(Below.refl _ _).alloc (Nat.le_refl _) _;obtain ⟨x0,x1⟩:=CA.o _ (Below.refl _ _);have EI:=zaa (show zti ws ps=(decide (ws.length=16) && (decide (ps.length=24) && (zco ws 0 == 2 && (okNs ws && (zks ws ps && (zhy ws ps && zqg ws)))))) from rfl)
 by_cases c1:ws.length=16
 case neg =>
  have E:=zaa (show zti ws ps=false by rw[EI.o,decide_eq_false c1];rfl)
  have q:((ws.length:Int) != 16)=true:=by rw[bne_iff_ne];omega
  clear c1;go_enter Tryz.func111,Tryz.ntmps111;go_wp2;go_ret;exact ⟨zae E.o.symm,BW.o⟩
 have q:((ws.length:Int) != 16)=false:=by rw[c1];rfl
 by_cases c2:ps.length=24
 case neg =>
  have E:=zaa (show zti ws ps=false by rw[EI.o,decide_eq_false c2,Bool.false_and,Bool.and_false])
  have q2:((ps.length:Int) != 24)=true:=by rw[bne_iff_ne];omega
  clear c1 c2;go_enter Tryz.func111,Tryz.ntmps111;go_wp2;go_ret;exact ⟨zae E.o.symm,BW.o⟩
 have q2:((ps.length:Int) != 24)=false:=by rw[c2];rfl
 obtain ⟨bW,oW,rfl,hblW,hcellW⟩:=HW.o (by omega);have HK:=(hcellW 0 (by omega)).1;rw[show ws[0].kind=zco ws 0 from (zes (i:=0) (by omega)).symm] at HK;simp only[Nat.zero_mul,Nat.add_zero] at HK;have kk:=(BW.o.cell (p:=⟨bW,oW,none⟩) hblW).trans HK
 have len16:(0:Int) < (ws.length:Int):=by omega
 have C1:=zaa c1;have E1:=zaa (show zti ws ps=(zco ws 0 == 2 && (okNs ws && (zks ws ps && (zhy ws ps && zqg ws)))) by rw[EI.o,decide_eq_true c1,decide_eq_true c2];rfl);have HC:=zaa hcellW;clear c1 c2 EI HK hcellW HW;generalize zco ws 0=k0 at *
 by_cases c3:k0=2
 case neg =>
  have q3:(k0 != 2)=true:=by rw[bne_iff_ne];exact c3
  have E:=zaa (show zti ws ps=false by rw[E1.o,show (k0 == 2)=false by rw[beq_eq_false_iff_ne];exact c3];rfl);clear c3;go_enter Tryz.func111,Tryz.ntmps111;go_wp2;go_ret;exact ⟨zae E.o.symm,BW.o⟩
 have q3:(k0 != 2)=false:=by rw[c3];rfl
 have E2:=zaa (show zti ws ps=(okNs ws && (zks ws ps && (zhy ws ps && zqg ws))) by rw[E1.o,c3];rfl);clear c3 E1;go_enter Tryz.func111,Tryz.ntmps111;go_wp2;clear x0 x1 kk q q2 q3;generalize w.alloc (.cells #[.slice (some ⟨bW,oW,none⟩) ws.length cW,.slice aP ps.length cP] 102)=W at *;have hz:w.heap.size≤W.heap.size:=BW.o.size
 go_loopw [3] (fun i wr=>∃ k:Nat,k≤ws.length∧i=.int .i64 k∧Hid (Below W.heap.size W wr∧∀ j (h:j < ws.length),j < k→zit ws[j]=true)) (fun i _=>ws.length - (intOf i).toNat)
 case atStart=>exact ⟨0,by omega,rfl,Below.refl _ _,fun j h a=>absurd a (by omega)⟩
 case round =>
  obtain ⟨k,hk,rfl,H⟩:=hrel;have H1:=zaa H.o.1;have HF:=zaa (zab BW.o H.o.1 hz);obtain ⟨x0,x1⟩:=CA.o wr H.o.1
  by_cases hlt:k < ws.length
  ·obtain ⟨a0,a1,a2,a3,a4,a5,a6,a7,a8,a9,a10⟩:=HC.o k hlt;have d0:=(HF.o.cell (p:=⟨bW,oW+k*11,none⟩) hblW).trans a0;have d1:=(HF.o.cell (p:=⟨bW,oW+k*11+1,none⟩) hblW).trans a1;have d2:=(HF.o.cell (p:=⟨bW,oW+k*11+2,none⟩) hblW).trans a2;have d3:=(HF.o.cell (p:=⟨bW,oW+k*11+3,none⟩) hblW).trans a3;have d4:=(HF.o.cell (p:=⟨bW,oW+k*11+4,none⟩) hblW).trans a4;have d5:=(HF.o.cell (p:=⟨bW,oW+k*11+5,none⟩) hblW).trans a5;have d6:=(HF.o.cell (p:=⟨bW,oW+k*11+6,none⟩) hblW).trans a6;have d7:=(HF.o.cell (p:=⟨bW,oW+k*11+7,none⟩) hblW).trans a7;have d8:=(HF.o.cell (p:=⟨bW,oW+k*11+8,none⟩) hblW).trans a8;have d9:=(HF.o.cell (p:=⟨bW,oW+k*11+9,none⟩) hblW).trans a9;have d10:=(HF.o.cell (p:=⟨bW,oW+k*11+10,none⟩) hblW).trans a10
   have k0':(0:Int)≤(k:Int):=by omega
   have k1:(k:Int) < (ws.length:Int):=by omega
   have LI:=zaa (fun w1=>zyl ws[k] w1 (HR.o k hlt))
   have H2:Hid (zit ws[k]=true→∀ j (h:j < ws.length),j < k+1→zit ws[j]=true):=fun q j h a=>by
    by_cases e:j=k
    ·subst e;exact q
    ·exact H.o.2 j h (by omega)
   have H3:=zaa (fun q=>yacr hlt q);clear a0 a1 a2 a3 a4 a5 a6 a7 a8 a9 a10 H;generalize ws[k]=x at d0 d1 d2 d3 d4 d5 d6 d7 d8 d9 d10 LI H2 H3
   cases qq:zit x with
   | true =>
    rw[qq] at LI;have E:=zaa (H2.o qq);clear H2 H3 qq;go_wp2_with fail;refine (LI.o _).mono ?_;rintro e w1 ⟨rfl,hb1⟩;have B3:=zaa (zab H1.o hb1 H1.o.size);clear hb1 d0 d1 d2 d3 d4 d5 d6 d7 d8 d9 d10 x0 x1;go_wp2
    go_roundw
    case rel=>exact ⟨k+1,by omega,by go_num,B3.o,E.o⟩
    case measure=>simp[intOf];omega
   | false =>
    rw[qq] at LI;have E:=zaa (show zti ws ps=false by rw[E2.o,H3.o qq];rfl);clear H2 H3 qq;go_wp2_with fail;refine (LI.o _).mono ?_;rintro e w1 ⟨rfl,hb1⟩;have B3:=zaa (zab HF.o hb1 HF.o.size);clear hb1 d0 d1 d2 d3 d4 d5 d6 d7 d8 d9 d10 x0 x1;go_wp2;go_ret;exact ⟨zae E.o.symm,B3.o⟩
  ·have O:=zaa (yahm (fun j h=>H.o.2 j h (by omega)));have E3:=zaa (show zti ws ps=(zks ws ps && (zhy ws ps && zqg ws)) by rw[E2.o,O.o];rfl);clear H;generalize zks ws ps=f1 at *;generalize zhy ws ps=f2 at *;generalize zqg ws=f3 at *;go_wp2_with fail;refine (L2.o _ (HRD.o.below HF.o) C1.o).mono ?_;rintro e w1 ⟨rfl,hb1⟩;have B1:=zaa (zab HF.o hb1 HF.o.size);have BA:=zaa (zab H1.o hb1 H1.o.size);clear hb1 x0 x1
   cases f1 with
   | false =>
    go_wp2;go_ret;exact ⟨zae (by rw[E3.o];rfl),B1.o⟩
   | true =>
   obtain ⟨x0,x1⟩:=CA.o _ BA.o;go_wp2_with fail;refine (L1.o _ (HRD.o.below B1.o)).mono ?_;rintro e w2 ⟨rfl,hb2⟩;have B2:=zaa (zab B1.o hb2 B1.o.size);have BB:=zaa (zab BA.o hb2 BA.o.size);clear hb2 x0 x1
   cases f2 with
   | false =>
    go_wp2;go_ret;exact ⟨zae (by rw[E3.o];rfl),B2.o⟩
   | true =>
   obtain ⟨x0,x1⟩:=CA.o _ BB.o;go_wp2_with fail;refine (L3.o _ (HRD.o.below B2.o) C1.o O.o).mono ?_;rintro e w3 ⟨rfl,hb3⟩;have B3:=zaa (zab B2.o hb3 B2.o.size);clear hb3 x0 x1;go_wp2;go_ret;exact ⟨zae (by rw[E3.o];rfl),B3.o⟩
def zcq (ws:List Int) (ps:List St):List Int:=ps.foldl (fun acc p=>acc.set p.at_.toNat p.val) ws
theorem yake (ws:List Int) (ps:List St) (p:St):zcq ws (ps ++ [p])=(zcq ws ps).set p.at_.toNat p.val:=by simp[zcq]
theorem zoe (ws:List Int):∀ ps:List St,(zcq ws ps).length=ws.length:=by
 intro ps;unfold zcq
 induction ps generalizing ws with
 | nil=>rfl
 | cons p ps ih=>rw[List.foldl_cons,ih];simp
theorem yajv:∀ (ps:List St) (ws:List Int) (k:Nat) (hk:k < ws.length) (_:∀ p∈ps,0≤p.at_) (hk':k < (zcq ws ps).length),(zcq ws ps)[k]=ziv (k:Int) ws[k] ps
 | [],ws,k,hk,_,_=>rfl
 | p :: ps,ws,k,hk,h0,hk'=>by
  have hk2:k < (ws.set p.at_.toNat p.val).length:=by simpa using hk
  have:=yajv ps (ws.set p.at_.toNat p.val) k hk2 (fun q hq=>h0 q (by simp[hq])) hk'
  show (zcq (ws.set p.at_.toNat p.val) ps)[k]=ziv (k:Int) (if p.at_=(k:Int) then p.val else ws[k]) ps
  rw[this,List.getElem_set];have hp:=h0 p (by simp)
  by_cases e:p.at_=(k:Int)
  ·rw[if_pos (by omega),if_pos e]
  ·rw[if_neg (by omega),if_neg e]
def zrl (ws:List Int) (ps:List St):Int:=if pmB ws ps=true then 0 else 1
def yafr (ws:List Int) (ps:List St):List Int:=if pmB ws ps=true then zcq ws ps else []
theorem yadl {ws:List Int} {ps:List St} (h:pmB ws ps=false):zrl ws ps=1∧yafr ws ps=[]:=by
 unfold zrl yafr;rw[h];exact ⟨rfl,rfl⟩
theorem yahc {ws:List Int} {ps:List St} (h:pmB ws ps=true):zrl ws ps=0∧yafr ws ps=zcq ws ps:=by
 unfold zrl yafr;rw[h];exact ⟨rfl,rfl⟩
theorem zrg (v:Value) (ws:List Int) (ps:List St) (w:World) (h:RdPm w v ws ps) (hw:ws.length≤1048576) (hp:ps.length≤1048576) :
  Calls Tryz.prog 208 #[v] w fun e w'=>∃ v',e=.returned (.tuple #[v',.int .i64 (zrl ws ps)])∧Row w' 3 1 w.heap.size w'.heap.size v' (yafr ws ps).length (zav (yafr ws ps))∧Below w.heap.size w w':=by
 have HR:=zaa h;obtain ⟨vW,vP,rfl,h1,h2⟩:=h;have H1:=zaa h1;obtain ⟨aW,cW,rfl,_⟩:=h1.shape;obtain ⟨aP,cP,rfl,_,hcP⟩:=h2.shape;have HP:=zaa hcP;clear h1 h2 hcP;have hb0:Below w.heap.size w (w.alloc (.cells #[.slice aW ws.length cW,.slice aP ps.length cP] 40)):=(Below.refl _ _).alloc (Nat.le_refl _) _
 by_cases hc:pmB ws ps=true
 ·obtain ⟨e1,e2⟩:=yahc hc;rw[e1,e2];clear e1 e2;have OK:=zaa (yajr hc);go_enter Tryz.func208,Tryz.ntmps208;go_wp2_with fail;refine (zba _ ws ps _ (HR.o.below hb0) hw hp).mono ?_;rintro e w1 ⟨rfl,hb1⟩
  have hz1:w.heap.size+1≤w1.heap.size:=by have:=hb1.size;simp at this;omega
  have V0:=(hb1.block w.heap.size (by simp <;> omega)).trans (zag rfl);obtain ⟨x1,x2,x3,x4⟩:=zad V0;have B1:=zaa (zab hb0 hb1 (by simp <;> omega));have VH:=zaa V0;clear hb0 hb1 V0;go_wp2_with (at_builtin;refine zak _ rfl (.const (.slice none 0 0)) (.tmp 11) 22 rfl w1.heap.size 3 (.int .i64 0) 1 8 Tryz.underlying22 zfz rfl (by decide) _ 0 [] rfl (World.ownsRow_nil _ _ _ _) _ ws.length (zav ws) rfl (Rd.below H1.o B1.o) (zdw ws) (by simp[maxLen];omega) (by omega) (Nat.le_refl _) ?_);intro v2 w2 hown2 hgr2
  have hown2:w2.ownsRow w1.heap.size 3 1 v2 ws.length (zav ws):=by simpa using hown2
  obtain ⟨aW2,cW2,rfl⟩:=RdI.form (zai hown2).rd rfl;have hz2:w1.heap.size≤w2.heap.size:=hgr2.size;have B2:=B1.o.grown hgr2 (by omega) (fun k hk=>by cases hk);have V0:=(hgr2.block w.heap.size (by omega) (by simp[Value.ownBlock])).trans VH.o;obtain ⟨z1,z2,z3,z4⟩:=zad V0;have START:=zaa (And.intro (zai hown2) B2);clear x1 x2 x3 x4 hown2 hgr2 B2 V0;go_wp2
  go_loopw [6,16] (fun _ i wr=>∃ m:Nat,m≤ps.length∧i=.int .i64 m∧Row wr 3 1 w1.heap.size w2.heap.size (.slice aW2 ws.length cW2) ws.length (zav (zcq ws (ps.take m)))∧Below w.heap.size w wr∧w2.heap.size≤wr.heap.size) (fun _ i _=>ps.length - (intOf i).toNat)
  case atStart=>exact ⟨0,by omega,rfl,START.o.1,START.o.2,Nat.le_refl _⟩
  case round =>
   obtain ⟨m,hm,rfl,hrow,hb,hz⟩:=hrel
   by_cases hlt:m < ps.length
   ·obtain ⟨b,o,rfl,hbl,hcell⟩:=HP.o (by omega);obtain ⟨e0,e1,e2⟩:=hcell m hlt;have d0:=(hb.cell (p:=⟨b,o+m*3,none⟩) hbl).trans e0;have d1:=(hb.cell (p:=⟨b,o+m*3+1,none⟩) hbl).trans e1;have d2:=(hb.cell (p:=⟨b,o+m*3+2,none⟩) hbl).trans e2;obtain ⟨q0,q1⟩:=OK.o m hlt;obtain ⟨_,aw',cw',ew',_,hcw⟩:=hrow.rd
    cases ew'
    obtain ⟨bw,ow,rfl,hblw,_⟩:=hcw (by omega)
    obtain ⟨rfl,hb1,_,_,hfrw,hclw⟩:=(hrow.alloc hz (.cells #[.int .i64 ps[m].at_,.int .i64 ps[m].val,.bool ps[m].fl] 147)).at
    have hj:ps[m].at_.toNat < (zcq ws (ps.take m)).length:=by rw[zoe];omega
    have g0:=hfrw ps[m].at_.toNat;have g1:=(hclw ps[m].at_.toNat (by omega)).trans (zay _ _ hj)
    have F:Hid (Row ((wr.setCell ⟨bw,ps[m].at_.toNat,none⟩ (.int .i64 ps[m].val)).alloc (.cells #[.int .i64 ps[m].at_,.int .i64 ps[m].val,.bool ps[m].fl] 147)) 3 1 w1.heap.size w2.heap.size (.slice (some ⟨bw,0,none⟩) ws.length cW2) ws.length (zav (zcq ws (ps.take (m+1))))):=by
     rw[zbd ps m hlt,yake,← zeo];exact (hrow.stored _ _).alloc (by simp;omega) _
    have G:=zaa ((hb.setCell (p:=⟨bw,ps[m].at_.toNat,none⟩) (by simp only;omega) (.int .i64 ps[m].val)).alloc (by simp;omega) (.cells #[.int .i64 ps[m].at_,.int .i64 ps[m].val,.bool ps[m].fl] 147));clear hrow hcell e0 e1 e2 hcw hfrw hclw;go_wp2
    go_roundw
    case rel=>exact ⟨m+1,by omega,by go_num,F.o,G.o,by simp;omega⟩
    case measure=>simp[intOf];omega
   ·have e:m=ps.length:=by omega
    subst e;have R:=zaa hrow;clear hrow;go_wp2;go_ret2;refine ⟨_,rfl,?_,hb⟩;have:=R.o;rw[List.take_length] at this;rw[zoe];exact this.wide (by omega) hz
 ·have hc':pmB ws ps=false:=by simpa using hc
  clear hc;obtain ⟨e1,e2⟩:=yadl hc';rw[e1,e2];clear e1 e2;go_enter Tryz.func208,Tryz.ntmps208;go_wp2_with fail;refine (zba _ ws ps _ (HR.o.below hb0) hw hp).mono ?_;rintro e w1 ⟨rfl,hb1⟩;have B1:=zaa (zab hb0 hb1 (by simp <;> omega));clear hb0 hb1;go_wp2;go_ret2;exact ⟨_,rfl,Row.nil _ _ _ _ _,B1.o⟩
end Go.Proofs.YtahiphgmhndgaaaGreatDoor
