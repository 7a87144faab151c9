/- Several texts laid together: ImN, PiK. -/
import Derived.Test.YtbohndgbfbfldaaGreatDoorImX
import Derived.Test.YtbohndgbfbfldaaGreatDoorZAG
set_option maxRecDepth 100000
set_option maxHeartbeats 4000000
namespace Go.Proofs.YtbohndgbfbfldaaGreatDoor
open Go.RowKit
def zci (ws:List Ino) (t:Int) (k j:Nat):List Int:=zbn (zlp ws k j) t
theorem zpz (ws:List Ino) (t:Int) (k:Nat):zci ws t k 0=zbn (zax (ws.take k)) t:=by unfold zci;rw[znp]
theorem zpi {ws:List Ino} {k:Nat} (t:Int) (hk:k < ws.length):zci ws t k 8=zbn (zax (ws.take (k+1))) t:=by unfold zci;rw[zml hk]
theorem zpv {ws:List Ino} {k:Nat} (t:Int) (hk:k < ws.length) {j:Nat} (hj:j < 8):zci ws t k (j+1)=if ¬ ws[k].map.getD j 0=0∧ws[k].map.getD j 0 % 4=t then zci ws t k j ++ [ws[k].map.getD j 0 / 4] else zci ws t k j:=by
 unfold zci;rw[zmm hk hj];generalize ws[k].map.getD j 0=z
 by_cases h0:z=0
 ·rw[if_pos h0,if_neg (fun h=>h.1 h0)]
 ·rw[if_neg h0];unfold zbn;rw[List.filter_append,List.map_append]
  by_cases h1:z % 4=t
  ·rw[if_pos ⟨h0,h1⟩];simp[h1]
  ·rw[if_neg (fun h=>h1 h.2)];simp[h1]
theorem zjo (l:List Int) (t:Int):(zbn l t).length≤l.length:=by
 unfold zbn;rw[List.length_map];exact List.length_filter_le _ _
theorem zoo (v:Value) (ws:List Ino) (ps:List Den) (t:Int) (w:World) (h:RdIm w v ws ps) (hn:ws.length≤4096) (hr:∀ k (h:k < ws.length),∀ z∈ws[k].map,0≤z∧z≤1048576) :
  Calls Tryz.prog 174 #[v,.int .i64 t] w fun e w'=>∃ v',e=.returned v'∧Row w' 3 1 w.heap.size w'.heap.size v' (zbn (zax ws) t).length (zdi (zbn (zax ws) t))∧Below w.heap.size w w':=by
 obtain ⟨vW,vP,rfl,h1,h2⟩:=h;obtain ⟨aW,cW,rfl,_,hcW⟩:=h1.shape;have HW:=zaa hcW;have HR:=zaa hr;obtain ⟨aP,cP,rfl,_,_⟩:=h2.shape;clear h1 h2 hcW hr
 obtain ⟨W,hW⟩:∃ W,W=w.alloc (.cells #[.slice aW ws.length cW,.slice aP ps.length cP] 123):=⟨_,rfl⟩
 have CA:Hid (∀ w',Below W.heap.size W w'→w'.cell? ⟨w.heap.size,0,none⟩=some (.slice aW ws.length cW)):=fun w' hb=>by
  have:w'.heap[w.heap.size]?=some (.cells #[.slice aW ws.length cW,.slice aP ps.length cP] 123 (0,0)):=(hb.block _ (by rw[hW];simp)).trans (by rw[hW];exact zah rfl);exact (zae this).1
 have BW:Hid (Below w.heap.size w W):=by rw[hW];exact (Below.refl _ _).alloc (Nat.le_refl _) _
 have hz:w.heap.size≤W.heap.size:=BW.o.size
 have START:Hid (InI W (W.alloc (.cells #[] 3)) (.slice (some ⟨W.heap.size,0,none⟩) 0 0) (zbn (zax (ws.take 0)) t)):=⟨World.ownsRow_lit W #[] 0 (Nat.le_refl _) (by simp[maxLen]) (by simp),(Below.refl _ _).alloc (Nat.le_refl _) _⟩
 go_enter Tryz.func174,Tryz.ntmps174;go_wp2;rw[hW] at START;simp only[World.size_alloc] at START
 go_loopw [5,6] (fun vL i wr=>∃ k:Nat,k≤ws.length∧i=.int .i64 k∧Hid (InI W wr vL (zbn (zax (ws.take k)) t))) (fun _ i _=>ws.length - (intOf i).toNat)
 case atStart=>exact ⟨0,by omega,rfl,by rw[hW];exact START.o⟩
 case round =>
  obtain ⟨k,hk,rfl,I⟩:=hrel;clear START hW;have x0:=CA.o wr I.o.b;have hzr:W.heap.size≤wr.heap.size:=I.o.z
  have k0:(0:Int)≤(k:Int):=by omega
  by_cases hlt:k < ws.length
  ·obtain ⟨b,o,rfl,hbl,hcell⟩:=HW.o (by omega)
   have k1:(k:Int) < (ws.length:Int):=by omega
   have MZ:=zaa (zpz ws t k);have MF:=zaa (zpi t hlt);have MS:=zaa (fun j (hj:j < 8)=>zpv t hlt hj);have ML:=zaa (fun j (hj:j≤8)=>Nat.le_trans (zjo (zlp ws k j) t) (zrd ws k j hlt hj))
   have ST:Hid (InI W wr u5 (zci ws t k 0)):=by unfold Hid;rw[MZ.o];exact I.o
   have HM:Hid (∀ w',Below w.heap.size w w'→∀ j,j < 8→w'.cell? ⟨b,o+k*11+3+j,none⟩=some (.int .i64 (ws[k].map.getD j 0))):=fun w' hb j hj=>by
    obtain ⟨a0,a1,a2,a3,a4,a5,a6,a7,a8,a9,a10⟩:=hcell k hlt
    rcases (show j=0∨j=1∨j=2∨j=3∨j=4∨j=5∨j=6∨j=7 by omega) with rfl | rfl | rfl | rfl | rfl | rfl | rfl | rfl
    ·exact (hb.cell (p:=⟨b,o+k*11+3,none⟩) hbl).trans a3
    ·exact (hb.cell (p:=⟨b,o+k*11+4,none⟩) hbl).trans a4
    ·exact (hb.cell (p:=⟨b,o+k*11+5,none⟩) hbl).trans a5
    ·exact (hb.cell (p:=⟨b,o+k*11+6,none⟩) hbl).trans a6
    ·exact (hb.cell (p:=⟨b,o+k*11+7,none⟩) hbl).trans a7
    ·exact (hb.cell (p:=⟨b,o+k*11+8,none⟩) hbl).trans a8
    ·exact (hb.cell (p:=⟨b,o+k*11+9,none⟩) hbl).trans a9
    ·exact (hb.cell (p:=⟨b,o+k*11+10,none⟩) hbl).trans a10
   have HZ:Hid (∀ j,j < 8→0≤ws[k].map.getD j 0∧ws[k].map.getD j 0≤1048576):=fun j hj=>by
    have e:ws[k].map.getD j 0=ws[k].map[j]'hj:=by rw[List.getD_eq_getElem?_getD,List.getElem?_eq_getElem (show j < ws[k].map.length from hj)];rfl
    rw[e];exact HR.o k hlt _ (List.getElem_mem _)
   clear I hcell;generalize ws[k]=x at *;go_wp2;clear x0
   go_loopw [5,7] (fun vL i wq=>∃ j:Nat,j≤8∧i=.int .i64 j∧Hid (InI W wq vL (zci ws t k j))) (fun _ i _=>8 - (intOf i).toNat)
   case atStart=>exact ⟨0,by omega,rfl,ST⟩
   case round =>
    obtain ⟨j,hj,rfl,J⟩:=hrel;clear ST;have y0:=CA.o wr J.o.b;have JW:=zaa (zab BW.o J.o.b hz);have hzj:W.heap.size≤wr.heap.size:=J.o.z
    have j0:(0:Int)≤(j:Int):=by omega
    by_cases hlj:j < 8
    ·have j1:(j:Int) < 8:=by omega
     have e0:=HM.o wr JW.o j hlj;obtain ⟨b0,b1⟩:=HZ.o j hlj;have MJ:=zaa (MS.o j hlj);have hlen:(zci ws t k j).length≤8*ws.length:=ML.o j (by omega);generalize x.map.getD j 0=z at e0 b0 b1 MJ
     by_cases q:z=0
     ·have q':(z != 0)=false:=by rw[q];rfl
      have G:Hid (InI W wr u5 (zci ws t k (j+1))):=by unfold Hid;rw[MJ.o,if_neg (fun h=>h.1 q)];exact J.o
      clear q J MJ;go_wp2
      go_roundw
      case rel=>exact ⟨j+1,by omega,by go_num,G⟩
      case measure=>simp[intOf];omega
     ·have q':(z != 0)=true:=by rw[bne_iff_ne];exact q
      by_cases r:z % 4=t
      ·have r':(z % 4 == t)=true:=by rw[beq_iff_eq];exact r
       have JB:Hid (InI W (wr.alloc (.cells #[.int .i64 (z / 4)] 3)) u5 (zci ws t k j)):=J.o.below ((Below.refl _ _).alloc (Nat.le_refl _) _);have RB:=zaa (yaae wr (z / 4));have hzb:=JB.o.z
       have MN:Hid (zci ws t k (j+1)=zci ws t k j ++ [z / 4]):=by unfold Hid;rw[MJ.o,if_pos ⟨q,r⟩]
       clear q r J MJ;go_wp2_with (at_builtin;refine zao _ rfl (.tmp 37) (.tmp 40) 22 rfl W.heap.size 3 (.int .i64 0) 1 8 Tryz.underlying22 zyo rfl (by decide) _ _ _ rfl JB.o.l _ 1 _ rfl RB.o (ztk _) (by simp[maxLen];omega) (by omega) (by omega) ?_);intro vN wN hownN hgrN;have G:=zaa (JB.o.grow (z / 4) hownN hgrN);rw[← MN.o] at G;clear hownN hgrN JB RB;go_wp2
       go_roundw
       case rel=>exact ⟨j+1,by omega,by go_num,G⟩
       case measure=>simp[intOf];omega
      ·have r':(z % 4 == t)=false:=by rw[beq_eq_false_iff_ne];exact r
       have G:Hid (InI W wr u5 (zci ws t k (j+1))):=by unfold Hid;rw[MJ.o,if_neg (fun h=>r h.2)];exact J.o
       clear q r J MJ;go_wp2
       go_roundw
       case rel=>exact ⟨j+1,by omega,by go_num,G⟩
       case measure=>simp[intOf];omega
    ·obtain rfl:j=8:=by omega
     have G:Hid (InI W wr u5 (zbn (zax (ws.take (k+1))) t)):=by unfold Hid;rw[← MF.o];exact J.o
     clear J;go_wp2
     go_roundw
     case rel=>exact ⟨k+1,by omega,by go_num,G⟩
     case measure=>simp[intOf];omega
  ·obtain rfl:k=ws.length:=by omega
   have E:=zaa (show zbn (zax (ws.take ws.length)) t=zbn (zax ws) t by rw[List.take_length]);rw[E.o] at I;obtain ⟨-,aL,cL,hvL,-⟩:=(zai I.o.l).rd;subst hvL;go_wp2;go_ret;exact ⟨_,rfl,(zai I.o.l).wide hz (Nat.le_refl _),zab BW.o I.o.b hz⟩
def zon (ws:List Ino):Bool:=decide (∀ k (h:k < ws.length),zdt ws[k]=true)
theorem ztm {ws:List Ino} (h:∀ k (h:k < ws.length),zdt ws[k]=true):zon ws=true:=decide_eq_true h
theorem zqu {ws:List Ino} {k:Nat} (hk:k < ws.length) (h:zdt ws[k]=false):zon ws=false:=decide_eq_false (fun x=>by have:=x k hk;rw[h] at this;cases this)
theorem yacg {ps:List Den} (h:∀ k (h:k < ps.length),ps[k].okB=true):zwg ps=true:=decide_eq_true h
theorem zyl {ps:List Den} {k:Nat} (hk:k < ps.length) (h:ps[k].okB=false):zwg ps=false:=decide_eq_false (fun x=>by have:=x k hk;rw[h] at this;cases this)
theorem zjd (v:Value) (ws:List Ino) (w:World) (h:RdN w v ws) (hn:ws.length≤1048576) (hT:TS w) (hE:ED w) (hr:∀ k (h:k < ws.length),ws[k].R) :
  Calls Tryz.prog 183 #[v,.func (.func 154) #[] #[]] w fun e w'=>e=.returned (.bool (zon ws))∧Below w.heap.size w w':=by
 obtain ⟨aW,cW,rfl,_,hcW⟩:=h.shape;have HW:=zaa hcW;have T:=zaa hT;have E0:=zaa hE;have HR:=zaa hr;clear h hcW hT hE hr;go_enter Tryz.func183,Tryz.ntmps183;go_wp2
 go_loopw [6,9] (fun _ i wr=>∃ k:Nat,k≤ws.length∧i=.int .i64 k∧Hid (Below w.heap.size w wr∧∀ j (h:j < ws.length),j < k→zdt ws[j]=true)) (fun _ i _=>ws.length - (intOf i).toNat)
 case atStart=>exact ⟨0,by omega,rfl,Below.refl _ _,fun j h a=>absurd a (by omega)⟩
 case round =>
  obtain ⟨k,hk,rfl,H⟩:=hrel;have H1:=zaa H.o.1;have hz:w.heap.size≤wr.heap.size:=H.o.1.size
  by_cases hlt:k < ws.length
  ·obtain ⟨b,o,rfl,hbl,hcell⟩:=HW.o (by omega);obtain ⟨a0,a1,a2,a3,a4,a5,a6,a7,a8,a9,a10⟩:=hcell k hlt;have d0:=(H1.o.cell (p:=⟨b,o+k*11,none⟩) hbl).trans a0;have d1:=(H1.o.cell (p:=⟨b,o+k*11+1,none⟩) hbl).trans a1;have d2:=(H1.o.cell (p:=⟨b,o+k*11+2,none⟩) hbl).trans a2;have d3:=(H1.o.cell (p:=⟨b,o+k*11+3,none⟩) hbl).trans a3;have d4:=(H1.o.cell (p:=⟨b,o+k*11+4,none⟩) hbl).trans a4;have d5:=(H1.o.cell (p:=⟨b,o+k*11+5,none⟩) hbl).trans a5;have d6:=(H1.o.cell (p:=⟨b,o+k*11+6,none⟩) hbl).trans a6;have d7:=(H1.o.cell (p:=⟨b,o+k*11+7,none⟩) hbl).trans a7;have d8:=(H1.o.cell (p:=⟨b,o+k*11+8,none⟩) hbl).trans a8;have d9:=(H1.o.cell (p:=⟨b,o+k*11+9,none⟩) hbl).trans a9;have d10:=(H1.o.cell (p:=⟨b,o+k*11+10,none⟩) hbl).trans a10
   have k0:(0:Int)≤(k:Int):=by omega
   have k1:(k:Int) < (ws.length:Int):=by omega
   have B2:=zaa (H1.o.alloc hz (.cells ws[k].cs.toArray 149));have LI:=zaa (fun w1 (h:Below w.heap.size w w1)=>zpa ws[k] w1 (T.o.below h) (E0.o.below h) (HR.o k hlt));have H2:Hid (∀ j (h:j < ws.length),j < k→zdt ws[j]=true):=H.o.2;clear a0 a1 a2 a3 a4 a5 a6 a7 a8 a9 a10 hcell H
   cases q:zdt ws[k] with
   | true =>
    have H':Hid (∀ j (h:j < ws.length),j < k+1→zdt ws[j]=true):=fun j h a=>by
     by_cases e:j=k
     ·subst e;exact q
     ·exact H2.o j h (by omega)
    rw[q] at LI;clear q H2;generalize ws[k]=x at d0 d1 d2 d3 d4 d5 d6 d7 d8 d9 d10 B2 LI;go_wp2_with fail;refine (LI.o _ B2.o).mono ?_;rintro e w1 ⟨rfl,hb1⟩;have B3:=zaa (zab B2.o hb1 B2.o.size);clear hb1 d0 d1 d2 d3 d4 d5 d6 d7 d8 d9 d10;go_wp2
    go_roundw
    case rel=>exact ⟨k+1,by omega,by go_num,B3.o,H'.o⟩
    case measure=>simp[intOf];omega
   | false =>
    have E:=zaa (zqu hlt q);rw[q] at LI;clear q H2;generalize ws[k]=x at d0 d1 d2 d3 d4 d5 d6 d7 d8 d9 d10 B2 LI;go_wp2_with fail;refine (LI.o _ B2.o).mono ?_;rintro e w1 ⟨rfl,hb1⟩;have B3:=zaa (zab B2.o hb1 B2.o.size);clear hb1 d0 d1 d2 d3 d4 d5 d6 d7 d8 d9 d10;go_wp2;go_ret;exact ⟨zac E.o.symm,B3.o⟩
  ·have E:=zaa (ztm (fun j h=>H.o.2 j h (by omega)));clear H;go_wp2;go_ret;exact ⟨zac E.o.symm,H1.o⟩
theorem zhs (v:Value) (ps:List Den) (w:World) (h:RdD w v ps) (hn:ps.length≤1048576) (hF:FD w) (hs:∀ k (h:k < ps.length),ps[k].name.size≤maxLen) :
  Calls Tryz.prog 184 #[v,.func (.func 185) #[] #[]] w fun e w'=>e=.returned (.bool (zwg ps))∧Below w.heap.size w w':=by
 obtain ⟨aP,cP,rfl,_,hcP⟩:=h.shape;have HP:=zaa hcP;have F:=zaa hF;have HS:=zaa hs;clear h hcP hF hs;go_enter Tryz.func184,Tryz.ntmps184;go_wp2
 go_loopw [6,9] (fun _ i wr=>∃ k:Nat,k≤ps.length∧i=.int .i64 k∧Hid (Below w.heap.size w wr∧∀ j (h:j < ps.length),j < k→ps[j].okB=true)) (fun _ i _=>ps.length - (intOf i).toNat)
 case atStart=>exact ⟨0,by omega,rfl,Below.refl _ _,fun j h a=>absurd a (by omega)⟩
 case round =>
  obtain ⟨k,hk,rfl,H⟩:=hrel;have H1:=zaa H.o.1;have hz:w.heap.size≤wr.heap.size:=H.o.1.size
  by_cases hlt:k < ps.length
  ·obtain ⟨b,o,rfl,hbl,hcell⟩:=HP.o (by omega);obtain ⟨a0,a1,a2⟩:=hcell k hlt;have d0:=(H1.o.cell (p:=⟨b,o+k*3,none⟩) hbl).trans a0;have d1:=(H1.o.cell (p:=⟨b,o+k*3+1,none⟩) hbl).trans a1;have d2:=(H1.o.cell (p:=⟨b,o+k*3+2,none⟩) hbl).trans a2
   have k0:(0:Int)≤(k:Int):=by omega
   have k1:(k:Int) < (ps.length:Int):=by omega
   have B2:=zaa (H1.o.alloc hz (.cells #[.int .i64 ps[k].dir,.string ps[k].name,.int .i64 ps[k].child] 143));have LI:=zaa (fun w1 (h:Below w.heap.size w w1)=>znv ps[k] w1 (F.o.below h) (HS.o k hlt));have H2:Hid (∀ j (h:j < ps.length),j < k→ps[j].okB=true):=H.o.2;clear a0 a1 a2 hcell H
   cases q:ps[k].okB with
   | true =>
    have H':Hid (∀ j (h:j < ps.length),j < k+1→ps[j].okB=true):=fun j h a=>by
     by_cases e:j=k
     ·subst e;exact q
     ·exact H2.o j h (by omega)
    rw[q] at LI;clear q H2;generalize ps[k]=x at d0 d1 d2 B2 LI;go_wp2_with fail;refine (LI.o _ B2.o).mono ?_;rintro e w1 ⟨rfl,hb1⟩;have B3:=zaa (zab B2.o hb1 B2.o.size);clear hb1 d0 d1 d2;go_wp2
    go_roundw
    case rel=>exact ⟨k+1,by omega,by go_num,B3.o,H'.o⟩
    case measure=>simp[intOf];omega
   | false =>
    have E:=zaa (zyl hlt q);rw[q] at LI;clear q H2;generalize ps[k]=x at d0 d1 d2 B2 LI;go_wp2_with fail;refine (LI.o _ B2.o).mono ?_;rintro e w1 ⟨rfl,hb1⟩;have B3:=zaa (zab B2.o hb1 B2.o.size);clear hb1 d0 d1 d2;go_wp2;go_ret;exact ⟨zac E.o.symm,B3.o⟩
  ·have E:=zaa (yacg (fun j h=>H.o.2 j h (by omega)));clear H;go_wp2;go_ret;exact ⟨zac E.o.symm,H1.o⟩
def zdg (ws:List Ino) (ps:List Den):Bool:=decide (ws.length=16) && (decide (ps.length=24) && (zon ws && zwg ps))
theorem zom (v:Value) (ws:List Ino) (ps:List Den) (w:World) (h:RdIm w v ws ps) (hw:ws.length≤1048576) (hp:ps.length≤1048576) (hT:TS w) (hE:ED w) (hF:FD w) (hr:∀ k (h:k < ws.length),ws[k].R) (hs:∀ k (h:k < ps.length),ps[k].name.size≤maxLen) :
  Calls Tryz.prog 143 #[v] w fun e w'=>e=.returned (.bool (zdg ws ps))∧Below w.heap.size w w':=by
 obtain ⟨vW,vP,rfl,h1,h2⟩:=h;have RW:=zaa h1;have RP:=zaa h2;obtain ⟨aW,cW,rfl,_,_⟩:=h1.shape;obtain ⟨aP,cP,rfl,_,_⟩:=h2.shape;have BW:=zaa ((Below.refl w.heap.size w).alloc (Nat.le_refl _) (.cells #[.slice aW ws.length cW,.slice aP ps.length cP] 123))
 have CA:Hid (∀ w',Below (w.alloc (.cells #[.slice aW ws.length cW,.slice aP ps.length cP] 123)).heap.size (w.alloc (.cells #[.slice aW ws.length cW,.slice aP ps.length cP] 123)) w'→w'.cell? ⟨w.heap.size,0,none⟩=some (.slice aW ws.length cW)∧w'.cell? ⟨w.heap.size,1,none⟩=some (.slice aP ps.length cP)):=fun w' hb=>by
  have:w'.heap[w.heap.size]?=some (.cells #[.slice aW ws.length cW,.slice aP ps.length cP] 123 (0,0)):=(hb.block _ (by simp)).trans (zah rfl);exact ⟨(zae this).1,(zae this).2.1⟩
 have LN:=zaa (fun w1 (hb:Below w.heap.size w w1)=>zjd (.slice aW ws.length cW) ws w1 (Rd.below RW.o hb) hw (hT.below hb) (hE.below hb) hr);have LD:=zaa (fun w1 (hb:Below w.heap.size w w1)=>zhs (.slice aP ps.length cP) ps w1 (Rd.below RP.o hb) hp (hF.below hb) hs);obtain ⟨x0,x1⟩:=CA.o _ (Below.refl _ _);clear h1 h2 hT hE hF hr hs
 by_cases c1:ws.length=16
 case neg =>
  have E:=zaa (show zdg ws ps=false by unfold zdg;rw[decide_eq_false c1];rfl)
  have q:((ws.length:Int) == 16)=false:=by rw[beq_eq_false_iff_ne];omega
  clear c1;go_enter Tryz.func143,Tryz.ntmps143;go_wp2;go_ret;exact ⟨zac E.o.symm,BW.o⟩
 have q:((ws.length:Int) == 16)=true:=by rw[beq_iff_eq];omega
 by_cases c2:ps.length=24
 case neg =>
  have E:=zaa (show zdg ws ps=false by unfold zdg;rw[decide_eq_false c2,Bool.false_and,Bool.and_false])
  have q2:((ps.length:Int) == 24)=false:=by rw[beq_eq_false_iff_ne];omega
  clear c1 c2;go_enter Tryz.func143,Tryz.ntmps143;go_wp2;go_ret;exact ⟨zac E.o.symm,BW.o⟩
 have q2:((ps.length:Int) == 24)=true:=by rw[beq_iff_eq];omega
 have E:=zaa (show zdg ws ps=(zon ws && zwg ps) by unfold zdg;rw[decide_eq_true c1,decide_eq_true c2];rfl);clear c1 c2
 cases q3:zon ws with
 | false =>
  rw[q3] at E LN;clear q3;go_enter Tryz.func143,Tryz.ntmps143;go_wp2_with fail;refine (LN.o _ BW.o).mono ?_;rintro e w1 ⟨rfl,hb1⟩;have B1:=zaa (zab BW.o hb1 BW.o.size);clear hb1 x0 x1;go_wp2;go_ret;exact ⟨zac (by rw[E.o];rfl),B1.o⟩
 | true =>
  rw[q3] at E LN;clear q3;go_enter Tryz.func143,Tryz.ntmps143;go_wp2_with fail;refine (LN.o _ BW.o).mono ?_;rintro e w1 ⟨rfl,hb1⟩;have B1:=zaa (zab BW.o hb1 BW.o.size);clear x0 x1;obtain ⟨x0,x1⟩:=CA.o _ hb1;clear hb1;go_wp2_with fail;refine (LD.o _ B1.o).mono ?_;rintro e w2 ⟨rfl,hb2⟩;have B2:=zaa (zab B1.o hb2 B1.o.size);clear hb2 x0 x1;go_wp2;go_ret;exact ⟨zac (by rw[E.o];rfl),B2.o⟩
end Go.Proofs.YtbohndgbfbfldaaGreatDoor
