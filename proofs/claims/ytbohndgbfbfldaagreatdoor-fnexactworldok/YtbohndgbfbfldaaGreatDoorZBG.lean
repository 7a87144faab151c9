/- Several texts laid together: PiO, ImO. -/
import Derived.Test.YtbohndgbfbfldaaGreatDoorZBD
import Derived.Test.YtbohndgbfbfldaaGreatDoorZBE
import Derived.Test.YtbohndgbfbfldaaGreatDoorPiN
import Derived.Test.YtbohndgbfbfldaaGreatDoorImM
set_option maxRecDepth 100000
set_option maxHeartbeats 8000000
namespace Go.Proofs.YtbohndgbfbfldaaGreatDoor
open Go.RowKit
def zxk (ws:List Ino) (ps:List Den):Bool:=zdg ws ps && (zbf ws 0 == 2 && (zje ws (zal ps) && (zij ((zal ps).map zee) && (lcB ws (zal ps) && (dhB ws (zal ps) && zct (zax ws))))))
theorem zsg {ws:List Ino} {ps:List Den} (h:zdg ws ps=true):ws.length=16∧ps.length=24∧zon ws=true∧zwg ps=true:=by
 unfold zdg at h;simp only[Bool.and_eq_true,decide_eq_true_eq] at h;exact h
theorem zps {ps:List Den} (h:zwg ps=true):∀ k (h:k < (zal ps).length),(0≤(zal ps)[k].child∧(zal ps)[k].child≤15)∧(0≤(zal ps)[k].dir∧(zal ps)[k].dir≤15):=by
 have h:=of_decide_eq_true h;intro k hk;obtain ⟨hm,hf⟩:=List.mem_filter.1 (List.getElem_mem hk);obtain ⟨i,hi,e⟩:=List.getElem_of_mem hm;have o:=h i hi;rw[e] at o;have c:=zhf o (fun q=>by rw[(zkf o).2 q] at hf;cases hf);exact ⟨by omega,c.2.1⟩
theorem zsz (v:Value) (ws:List Ino) (ps:List Den) (w:World) (h:RdIm w v ws ps) (hw:ws.length≤1048576) (hp:ps.length≤1048576) (hT:TS w) (hE:ED w) (hF:FD w) (hr:∀ k (h:k < ws.length),ws[k].R) (hs:∀ k (h:k < ps.length),ps[k].name.size≤maxLen) :
  Calls Tryz.prog 92 #[v] w fun e w'=>e=.returned (.bool (zxk ws ps))∧Below w.heap.size w w':=by
 have LP:=zaa (fun w1 (hb:Below w.heap.size w w1)=>zom v ws ps w1 (h.below hb) hw hp (hT.below hb) (hE.below hb) (hF.below hb) hr hs);obtain ⟨vW,vP,rfl,h1,h2⟩:=h;have RW:=zaa h1;have RP:=zaa h2;obtain ⟨aW,cW,rfl,_,hcW⟩:=h1.shape;obtain ⟨aP,cP,rfl,_,_⟩:=h2.shape;have BW:=zaa ((Below.refl w.heap.size w).alloc (Nat.le_refl _) (.cells #[.slice aW ws.length cW,.slice aP ps.length cP] 123))
 have CA:Hid (∀ w',Below (w.alloc (.cells #[.slice aW ws.length cW,.slice aP ps.length cP] 123)).heap.size (w.alloc (.cells #[.slice aW ws.length cW,.slice aP ps.length cP] 123)) w'→w'.cell? ⟨w.heap.size,0,none⟩=some (.slice aW ws.length cW)∧w'.cell? ⟨w.heap.size,1,none⟩=some (.slice aP ps.length cP)):=fun w' hb=>by
  have:w'.heap[w.heap.size]?=some (.cells #[.slice aW ws.length cW,.slice aP ps.length cP] 123 (0,0)):=(hb.block _ (by simp)).trans (zah rfl);exact ⟨(zae this).1,(zae this).2.1⟩
 obtain ⟨x0,x1⟩:=CA.o _ (Below.refl _ _);have F:=zaa hF;clear h1 h2 hT hE hF hr hs
 cases c1:zdg ws ps with
 | false =>
  have E:=zaa (show zxk ws ps=false by unfold zxk;rw[c1];rfl);rw[c1] at LP;clear c1 hcW;go_enter Tryz.func92,Tryz.ntmps92;go_wp2_with fail;refine (LP.o _ BW.o).mono ?_;rintro e w1 ⟨rfl,hb1⟩;have B1:=zaa (zab BW.o hb1 BW.o.size);clear hb1 x0 x1;go_wp2;go_ret;exact ⟨zac E.o.symm,B1.o⟩
 | true =>
 obtain ⟨l1,l2,o1,o2⟩:=zsg c1;have E0:=zaa (show zxk ws ps=(zbf ws 0 == 2 && (zje ws (zal ps) && (zij ((zal ps).map zee) && (lcB ws (zal ps) && (dhB ws (zal ps) && zct (zax ws)))))) by unfold zxk;rw[c1,Bool.true_and]);rw[c1] at LP;obtain ⟨bW,oW,rfl,hblW,hcellW⟩:=hcW (by omega);have HK:=(hcellW 0 (by omega)).1;rw[show ws[0].kind=zbf ws 0 from (zcc (i:=0) (by omega)).symm] at HK;simp only[Nat.zero_mul,Nat.add_zero] at HK
 have KK:Hid (∀ w',Below w.heap.size w w'→w'.cell? ⟨bW,oW,none⟩=some (.int .i64 (zbf ws 0))):=fun w' hb=>(hb.cell (p:=⟨bW,oW,none⟩) hblW).trans HK
 have TR:=zaa (zps o2)
 have tl:(zal ps).length≤24:=by have:=zmo ps;omega
 have ml:(zax ws).length≤128:=by have:=zfw ws;omega
 have len16:(0:Int) < (ws.length:Int):=by omega
 have L1:=zaa l1;have L2:=zaa l2;have LT:=zaa (fun w1 (hb:Below w.heap.size w w1)=>zha (.slice aP ps.length cP) ps w1 (Rd.below RP.o hb) (by omega) (F.o.below hb));have LM:=zaa (fun w1 (hb:Below w.heap.size w w1)=>zfm (.slice (some ⟨bW,oW,none⟩) ws.length cW) ws w1 (Rd.below RW.o hb) (by omega));have LK:=zaa (fun v w1 (hb:Below w.heap.size w w1) h=>zoe (.slice (some ⟨bW,oW,none⟩) ws.length cW) v ws (zal ps) w1 (Rd.below RW.o hb) h l1 (by omega) TR.o);have LC:=zaa (fun v w1 (hb:Below w.heap.size w w1) h=>zgy (.slice (some ⟨bW,oW,none⟩) ws.length cW) v ws (zal ps) w1 (Rd.below RW.o hb) h l1 (by omega) (fun k hk=>(TR.o k hk).1));have LH:=zaa (fun v w1 (hb:Below w.heap.size w w1) h=>zev (.slice (some ⟨bW,oW,none⟩) ws.length cW) v ws (zal ps) w1 (Rd.below RW.o hb) h l1 (by omega) TR.o);have LO:=zaa (fun v w1 h=>zla v (zal ps) w1 h (by omega));have LI:=zaa (fun v w1 h=>zgt v (zax ws) w1 h (by omega));clear l1 l2 o1 o2 c1 hcW hcellW HK TR F RP RW;generalize zbf ws 0=k0 at *;generalize zal ps=ts at *;generalize zax ws=ms at *;generalize zje ws ts=f1 at *;generalize zij (ts.map zee)=f2 at *;generalize lcB ws ts=f3 at *;generalize dhB ws ts=f4 at *;generalize zct ms=f5 at *
 by_cases c2:k0=2
 case neg =>
  have q:(k0 != 2)=true:=by rw[bne_iff_ne];exact c2
  have E:=zaa (show zxk ws ps=false by rw[E0.o,show (k0 == 2)=false by rw[beq_eq_false_iff_ne];exact c2];rfl);clear c2;go_enter Tryz.func92,Tryz.ntmps92;go_wp2_with fail;refine (LP.o _ BW.o).mono ?_;rintro e w1 ⟨rfl,hb1⟩;have B1:=zaa (zab BW.o hb1 BW.o.size);clear x0 x1;obtain ⟨x0,x1⟩:=CA.o _ hb1;have kk:=KK.o _ B1.o;clear hb1;go_wp2;go_ret;exact ⟨zac E.o.symm,B1.o⟩
 have q:(k0 != 2)=false:=by rw[c2];rfl
 have E1:=zaa (show zxk ws ps=(f1 && (f2 && (f3 && (f4 && f5)))) by rw[E0.o,c2];rfl);clear c2 E0;go_enter Tryz.func92,Tryz.ntmps92;go_wp2_with fail;refine (LP.o _ BW.o).mono ?_;rintro e w1 ⟨rfl,hb1⟩;have B1:=zaa (zab BW.o hb1 BW.o.size);have BA:=zaa hb1;clear x0 x1 LP;obtain ⟨x0,x1⟩:=CA.o _ hb1;have kk:=KK.o _ B1.o;clear hb1;go_wp2_with fail;refine (LT.o _ B1.o).mono ?_;rintro e w2 ⟨v2,rfl,hr2,hb2⟩;obtain ⟨-,aT,cT,hvT,-⟩:=hr2.rd;subst hvT;have hz1:w.heap.size≤w1.heap.size:=B1.o.size;have hz2:w1.heap.size≤w2.heap.size:=hb2.size;have R2:=zaa hr2.rd;have B2:=zaa (zab B1.o hb2 hz1);have BA2:=zaa (zab BA.o hb2 BA.o.size);clear hr2 x0 x1 kk B1 BA KK LT hb2;obtain ⟨x0,x1⟩:=CA.o _ BA2.o;go_wp2_with fail;refine (LK.o _ _ B2.o R2.o).mono ?_;rintro e w3 ⟨rfl,hb3⟩;have hz3:w2.heap.size≤w3.heap.size:=hb3.size;have R3:=zaa (Rd.below R2.o hb3);have B3:=zaa (zab B2.o hb3 (by omega));have BA3:=zaa (zab BA2.o hb3 (by have:=BA2.o.size;omega));clear hb3 x0 x1 R2 B2 BA2
 cases f1 with
 | false =>
  go_wp2;go_ret;exact ⟨zac (by rw[E1.o];rfl),B3.o⟩
 | true =>
 go_wp2_with fail;refine (LO.o _ _ R3.o).mono ?_;rintro e w4 ⟨rfl,hb4⟩;have hz4:w3.heap.size≤w4.heap.size:=hb4.size;have R4:=zaa (Rd.below R3.o hb4);have B4:=zaa (zab B3.o hb4 (by omega));have BA4:=zaa (zab BA3.o hb4 (by have:=BA3.o.size;omega));clear hb4 R3 B3 BA3
 cases f2 with
 | false =>
  go_wp2;go_ret;exact ⟨zac (by rw[E1.o];rfl),B4.o⟩
 | true =>
 obtain ⟨x0,x1⟩:=CA.o _ BA4.o;go_wp2_with fail;refine (LC.o _ _ B4.o R4.o).mono ?_;rintro e w5 ⟨rfl,hb5⟩;have hz5:w4.heap.size≤w5.heap.size:=hb5.size;have R5:=zaa (Rd.below R4.o hb5);have B5:=zaa (zab B4.o hb5 (by omega));have BA5:=zaa (zab BA4.o hb5 (by have:=BA4.o.size;omega));clear hb5 x0 x1 R4 B4 BA4
 cases f3 with
 | false =>
  go_wp2;go_ret;exact ⟨zac (by rw[E1.o];rfl),B5.o⟩
 | true =>
 obtain ⟨x0,x1⟩:=CA.o _ BA5.o;go_wp2_with fail;refine (LH.o _ _ B5.o R5.o).mono ?_;rintro e w6 ⟨rfl,hb6⟩;have hz6:w5.heap.size≤w6.heap.size:=hb6.size;have B6:=zaa (zab B5.o hb6 (by omega));have BA6:=zaa (zab BA5.o hb6 (by have:=BA5.o.size;omega));clear hb6 x0 x1 R5 B5 BA5
 cases f4 with
 | false =>
  go_wp2;go_ret;exact ⟨zac (by rw[E1.o];rfl),B6.o⟩
 | true =>
 obtain ⟨x0,x1⟩:=CA.o _ BA6.o;go_wp2_with fail;refine (LM.o _ B6.o).mono ?_;rintro e w7 ⟨v7,rfl,hr7,hb7⟩;obtain ⟨-,aM,cM,hvM,-⟩:=hr7.rd;subst hvM;have B7:=zaa (zab B6.o hb7 (by omega));have R7:=zaa hr7.rd;clear hb7 hr7 x0 x1 B6 BA6;go_wp2_with fail;refine (LI.o _ _ R7.o).mono ?_;rintro e w' ⟨rfl,hw'⟩;subst w';go_wp2;go_ret;exact ⟨zac (by rw[E1.o];rfl),B7.o⟩
def zgw (ws:List Ino):Bool:=zct (zbn (zax ws) 1) && zct (zbn (zax ws) 2)
def zew (ws:List Ino) (ps:List Den):Bool:=decide (ws.length=16) && (decide (ps.length=24) && (zbf ws 0 == 2 && (zon ws && (zen ws ps && (zdj ws ps && zgw ws)))))
theorem zqt {x:Ino} (h:zdt x=true):(∀ z∈x.map,zet z=true)∧(x.kind=2→x.links=1):=by
 unfold zdt at h;simp only[Bool.and_eq_true,decide_eq_true_eq] at h;obtain ⟨_,_,_,d,f⟩:=h;refine ⟨fun z hz=>?_,fun k=>?_⟩
 ·obtain ⟨i,hi,rfl⟩:=List.getElem_of_mem hz;have:=zlf d i hi;rw[List.getD_eq_getElem?_getD,List.getElem?_eq_getElem hi] at this;unfold zsj at this;simp only[Option.getD_some,Bool.and_eq_true] at this;exact this.1
 ·unfold zfp at f;rw[if_neg (by omega),if_pos k] at f;simp only[Bool.and_eq_true,beq_iff_eq] at f;exact f.2
theorem zue {z:Int} (h:zet z=true):0≤z∧z≤1048576:=by
 unfold zet zhb at h;simp only[Bool.and_eq_true,decide_eq_true_eq] at h;omega
theorem zmx {ws:List Ino} (h:zon ws=true):∀ i (h:i < ws.length),∀ z∈ws[i].map,zet z=true:=fun i hi=>(zqt ((of_decide_eq_true h:∀ k (h:k < ws.length),zdt ws[k]=true) i hi)).1
theorem yaao (ws:List Ino) (ps:List Den):zxk ws ps=zew ws ps:=by
 unfold zxk zew zdg
 by_cases l1:ws.length=16
 case neg=>simp[l1]
 by_cases l2:ps.length=24
 case neg=>simp[l2]
 rw[decide_eq_true l1,decide_eq_true l2,Bool.true_and,Bool.true_and,Bool.true_and,Bool.true_and]
 cases o1:zon ws
 ·simp
 cases o2:zwg ps
 ·have:zen ws ps=false:=by
   rw[Bool.eq_false_iff];intro e;rw[yacq e] at o2
   cases o2
  rw[this];simp
 rw[yacw o2]
 cases f1:zje ws (zal ps)
 ·simp
 cases f2:zij ((zal ps).map zee)
 ·simp
 rw[zxu l1 (fun i hi=>(zqt ((of_decide_eq_true o1:∀ k (h:k < ws.length),zdt ws[k]=true) i hi)).2) o2 f1];have s1:zgw ws=zct (zax ws):=zui (fun e he=>(zpq (zmx o1) e he).2);rw[s1];simp[Bool.and_assoc]
theorem zlj (v:Value) (ws:List Ino) (ps:List Den) (w:World) (h:RdIm w v ws ps) (hn:ws.length=16) (hr:∀ k (h:k < ws.length),∀ z∈ws[k].map,0≤z∧z≤1048576) :
  Calls Tryz.prog 128 #[v] w fun e w'=>e=.returned (.bool (zgw ws))∧Below w.heap.size w w':=by
 have HR:=zaa h;have LU:=zaa (fun t w1 h=>zoo v ws ps t w1 h (by omega) hr);have UL:=zaa (fun t=>show (zbn (zax ws) t).length≤128 by have:=zjo (zax ws) t;have:=zfw ws;omega);obtain ⟨vW,vP,rfl,h1,h2⟩:=h;obtain ⟨aW,cW,rfl,_,_⟩:=h1.shape;obtain ⟨aP,cP,rfl,_,_⟩:=h2.shape;clear h1 h2 hr hn
 obtain ⟨W,hW⟩:∃ W,W=w.alloc (.cells #[.slice aW ws.length cW,.slice aP ps.length cP] 123):=⟨_,rfl⟩
 have CA:Hid (∀ w',Below W.heap.size W w'→w'.cell? ⟨w.heap.size,0,none⟩=some (.slice aW ws.length cW)∧w'.cell? ⟨w.heap.size,1,none⟩=some (.slice aP ps.length cP)):=fun w' hb=>by
  have:w'.heap[w.heap.size]?=some (.cells #[.slice aW ws.length cW,.slice aP ps.length cP] 123 (0,0)):=(hb.block _ (by rw[hW];simp)).trans (by rw[hW];exact zah rfl);exact ⟨(zae this).1,(zae this).2.1⟩
 have BW:Hid (Below w.heap.size w W):=by rw[hW];exact (Below.refl _ _).alloc (Nat.le_refl _) _
 have hz:w.heap.size≤W.heap.size:=BW.o.size;have SG:=zaa (show zgw ws=(zct (zbn (zax ws) 1) && zct (zbn (zax ws) 2)) from rfl);generalize zbn (zax ws)=uf at *;go_enter Tryz.func128,Tryz.ntmps128;go_wp2;rw[← hW];clear hW
 go_loopw [3] (fun i wr=>∃ t:Nat,(1≤t∧t≤3)∧i=.int .i64 t∧Hid (Below W.heap.size W wr∧∀ s:Nat,1≤s→s < t→zct (uf (s:Int))=true)) (fun i _=>3 - (intOf i).toNat)
 case atStart=>exact ⟨1,by omega,rfl,Below.refl _ _,fun s h a=>absurd a (by omega)⟩
 case round =>
  obtain ⟨t,ht,rfl,J⟩:=hrel;have J1:=zaa J.o.1;have JW:=zaa (zab BW.o J.o.1 hz);obtain ⟨x0,x1⟩:=CA.o wr J.o.1
  by_cases hlt:t≤2
  ·have t2:(t:Int)≤2:=by omega
   have t1:(0:Int)≤(t:Int):=by omega
   have JS:=zaa J.o.2
   have NO:Hid (zct (uf (t:Int))=false→zgw ws=false):=fun q=>by
    rw[SG.o]
    rcases (show t=1∨t=2 by omega) with rfl | rfl
    ·rw[show ((1:Nat):Int)=1 from rfl] at q;rw[q];rfl
    ·rw[show ((2:Nat):Int)=2 from rfl] at q;rw[q,Bool.and_false]
   clear J;go_wp2_with fail;refine (LU.o _ _ (HR.o.below JW.o)).mono ?_;rintro e w1 ⟨v1,rfl,hr1,hb1⟩;obtain ⟨-,aL,cL,hvL,hcap,-⟩:=hr1.rd;have hcap1:=hcap.1;subst hvL;have R1:Hid (RdI w1 (.slice aL (uf (t:Int)).length cL) (uf (t:Int))):=hr1.rd;have B1:=zaa (zab J1.o hb1 J1.o.size);have B2:=zaa (zab BW.o B1.o hz);have ul:=UL.o (t:Int)
   have JN:Hid (zct (uf (t:Int))=true→∀ s:Nat,1≤s→s < t+1→zct (uf (s:Int))=true):=fun q s h a=>by
    by_cases e:s=t
    ·subst e;exact q
    ·exact JS.o s h (by omega)
   clear hr1 hb1 x0 x1 hcap JS;generalize uf (t:Int)=zs at *;obtain ⟨aZ,cZ,e,_,hcZ⟩:=R1.o.shape;have HZ:=zaa hcZ
   obtain ⟨rfl,rfl⟩:aZ=aL∧cZ=cL:=by cases e;exact ⟨rfl,rfl⟩
   clear e hcZ;go_wp2
   go_loopw [5] (fun i wq=>∃ k:Nat,k≤zs.length∧i=.int .i64 k∧Hid (Below w1.heap.size w1 wq∧∀ j (h:j < zs.length),j < k→zjp (zs.take j) zs[j]=false)) (fun i _=>zs.length - (intOf i).toNat)
   case atStart=>exact ⟨0,by omega,rfl,Below.refl _ _,fun j h a=>absurd a (by omega)⟩
   case round =>
    obtain ⟨k,hk,rfl,H⟩:=hrel
    have k0:(0:Int)≤(k:Int):=by omega
    have H1:=zaa H.o.1;have HB:=zaa (zab B1.o H.o.1 B1.o.size);have HF:=zaa (zab B2.o H.o.1 B2.o.size)
    by_cases hlk:k < zs.length
    ·obtain ⟨b,o,rfl,hbl,hcell⟩:=HZ.o (by omega);have hck:=(H1.o.cell (p:=⟨b,o+k,none⟩) hbl).trans (hcell k hlk)
     have k1:(k:Int) < (zs.length:Int):=by omega
     have k2:(k:Int)≤(cZ:Int):=by omega
     have hblr:b < wr.heap.size:=by have:=H1.o.size;omega
     have RT:=zaa (RdI.take (Rd.below R1.o H1.o) hk);have LT:=zaa (show (zs.take k).length≤1048576 by rw[List.length_take];omega);clear hcell
     cases q:zjp (zs.take k) zs[k] with
     | false =>
      have H':Hid (∀ j (h:j < zs.length),j < k+1→zjp (zs.take j) zs[j]=false):=fun j h a=>by
       by_cases e:j=k
       ·subst e;exact q
       ·exact H.o.2 j h (by omega)
      have Q:=zaa q;clear q H;generalize zs[k]=z at hck Q;go_wp2
      have RB:Hid (∀ w',Below wr.heap.size wr w'→RdI w' (.slice (some ⟨b,o,none⟩) k cZ) (zs.take k)):=fun w' hb=>Rd.below RT.o hb
      have SK:Hid (∀ w',Below wr.heap.size wr w'→w'.cell? ⟨b,o+k,none⟩=some (.int .i64 z)):=fun w' hb=>(hb.cell (p:=⟨b,o+k,none⟩) hblr).trans hck
      go_region_held3 (fun w'=>w'.cell? ⟨b,o+k,none⟩=some (.int .i64 z))
       (exact SK.o _ (by repeat (first | exact Below.refl _ _ | refine Below.drew ?_)))
       (first
        | (go_at_call 175;refine (zjr _ (zs.take k) z _ (RB.o _ (by repeat (first | exact Below.refl _ _ | refine Below.drew ?_))) LT.o).mono ?_;rw[Q.o];rintro e w' ⟨rfl,hw'⟩;subst w'))
      all_goals
       clear SK RB hck;go_wp2
       go_roundw
       case rel=>exact ⟨k+1,by omega,by go_num,(by repeat (first | exact H1.o | refine Below.drew ?_)),H'.o⟩
       case measure=>simp[intOf];omega
     | true =>
      have E:=zaa (NO.o (zmh hlk q));have Q:=zaa q;clear q H;generalize zs[k]=z at hck Q;go_wp2
      have RB:Hid (∀ w',Below wr.heap.size wr w'→RdI w' (.slice (some ⟨b,o,none⟩) k cZ) (zs.take k)):=fun w' hb=>Rd.below RT.o hb
      have SK:Hid (∀ w',Below wr.heap.size wr w'→w'.cell? ⟨b,o+k,none⟩=some (.int .i64 z)):=fun w' hb=>(hb.cell (p:=⟨b,o+k,none⟩) hblr).trans hck
      go_region_held3 (fun w'=>w'.cell? ⟨b,o+k,none⟩=some (.int .i64 z))
       (exact SK.o _ (by repeat (first | exact Below.refl _ _ | refine Below.drew ?_)))
       (first
        | (go_at_call 175;refine (zjr _ (zs.take k) z _ (RB.o _ (by repeat (first | exact Below.refl _ _ | refine Below.drew ?_))) LT.o).mono ?_;rw[Q.o];rintro e w' ⟨rfl,hw'⟩;subst w'))
      all_goals
       clear SK RB hck;go_wp2;go_ret;exact ⟨zac E.o.symm,(by repeat (first | exact HF.o | refine Below.drew ?_))⟩
    ·have E:=zaa (JN.o (zrg (fun j h=>H.o.2 j h (by omega))));clear H;go_wp2
     go_roundw
     case rel=>exact ⟨t+1,by omega,by go_num,HB.o,E.o⟩
     case measure=>simp[intOf];omega
  ·obtain rfl:t=3:=by omega
   have E:=zaa (show zgw ws=true by
    have e1:zct (uf 1)=true:=J.o.2 1 (by omega) (by omega);have e2:zct (uf 2)=true:=J.o.2 2 (by omega) (by omega)
    rw[SG.o,e1,e2];rfl)
   clear J;go_wp2;go_ret;exact ⟨zac E.o.symm,JW.o⟩
end Go.Proofs.YtbohndgbfbfldaaGreatDoor
