/- Several texts laid together: PiO, ImO, ImP, PaA, IgD. -/
import Derived.Test.YtbohndgbfbfldaaGreatDoorPiK
import Derived.Test.YtbohndgbfbfldaaGreatDoorPiL
import Derived.Test.YtbohndgbfbfldaaGreatDoorPiN
import Derived.Test.YtbohndgbfbfldaaGreatDoorImX
import Derived.Test.YtbohndgbfbfldaaGreatDoorZAK
import Derived.Test.YtbohndgbfbfldaaGreatDoorZAD
import Derived.Maps.Views
import Derived.Deep.LoopGhost
import Derived.Deep.RegionHeld3
import Derived.Laws.OwnMore
import Derived.Lib.SplitLaws
import Derived.Lib.IndexBytes
import Derived.BigQuiet
import Derived.Sort.Walk0
import Derived.Laws.Cover1
set_option maxRecDepth 100000
set_option maxHeartbeats 8000000
namespace Go.Proofs.YtbohndgbfbfldaaGreatDoor
open Go.RowKit
def zyf (ws:List Ino) (ps:List Den):Bool:=zds ws ps && (zbo ws 0 == 2 && (zjf ws (zak ps) && (zic ((zak ps).map zei) && (lcB ws (zak ps) && (dhB ws (zak ps) && zfk (zbh ws))))))
theorem zsk {ws:List Ino} {ps:List Den} (h:zds ws ps=true):ws.length=16∧ps.length=24∧zun ws=true∧zvz ps=true:=by
 unfold zds at h;simp only[Bool.and_eq_true,decide_eq_true_eq] at h;exact h
theorem zqb {ps:List Den} (h:zvz ps=true):∀ k (h:k < (zak ps).length),(0≤(zak ps)[k].child∧(zak ps)[k].child≤15)∧(0≤(zak ps)[k].dir∧(zak ps)[k].dir≤15):=by
 have h:=of_decide_eq_true h;intro k hk;obtain ⟨hm,hf⟩:=List.mem_filter.1 (List.getElem_mem hk);obtain ⟨i,hi,e⟩:=List.getElem_of_mem hm;have o:=h i hi;rw[e] at o;have c:=zhb o (fun q=>by rw[(zld o).2 q] at hf;cases hf);exact ⟨by omega,c.2.1⟩
theorem zut (v:Value) (ws:List Ino) (ps:List Den) (w:World) (h:RdIm w v ws ps) (hw:ws.length≤1048576) (hp:ps.length≤1048576) (hT:TS w) (hE:ED w) (hF:FD w) (hr:∀ k (h:k < ws.length),ws[k].R) (hs:∀ k (h:k < ps.length),ps[k].name.size≤maxLen) :
  Calls Tryz.prog 92 #[v] w fun e w'=>e=.returned (.bool (zyf ws ps))∧Below w.heap.size w w':=by
 have LP:=zaa (fun w1 (hb:Below w.heap.size w w1)=>zpb v ws ps w1 (h.below hb) hw hp (hT.below hb) (hE.below hb) (hF.below hb) hr hs);obtain ⟨vW,vP,rfl,h1,h2⟩:=h;have RW:=zaa h1;have RP:=zaa h2;obtain ⟨aW,cW,rfl,_,hcW⟩:=h1.shape;obtain ⟨aP,cP,rfl,_,_⟩:=h2.shape;have BW:=zaa ((Below.refl w.heap.size w).alloc (Nat.le_refl _) (.cells #[.slice aW ws.length cW,.slice aP ps.length cP] 123))
 have CA:Hid (∀ w',Below (w.alloc (.cells #[.slice aW ws.length cW,.slice aP ps.length cP] 123)).heap.size (w.alloc (.cells #[.slice aW ws.length cW,.slice aP ps.length cP] 123)) w'→w'.cell? ⟨w.heap.size,0,none⟩=some (.slice aW ws.length cW)∧w'.cell? ⟨w.heap.size,1,none⟩=some (.slice aP ps.length cP)):=fun w' hb=>by
  have:w'.heap[w.heap.size]?=some (.cells #[.slice aW ws.length cW,.slice aP ps.length cP] 123 (0,0)):=(hb.block _ (by simp)).trans (zae rfl);exact ⟨(zac this).1,(zac this).2.1⟩
 obtain ⟨x0,x1⟩:=CA.o _ (Below.refl _ _);have F:=zaa hF;clear h1 h2 hT hE hF hr hs
 cases c1:zds ws ps with
 | false =>
  have E:=zaa (show zyf ws ps=false by unfold zyf;rw[c1];rfl);rw[c1] at LP;clear c1 hcW;go_enter Tryz.func92,Tryz.ntmps92;go_wp2_with fail;refine (LP.o _ BW.o).mono ?_;rintro e w1 ⟨rfl,hb1⟩;have B1:=zaa (zab BW.o hb1 BW.o.size);clear hb1 x0 x1;go_wp2;go_ret;exact ⟨zad E.o.symm,B1.o⟩
 | true =>
 obtain ⟨l1,l2,o1,o2⟩:=zsk c1;have E0:=zaa (show zyf ws ps=(zbo ws 0 == 2 && (zjf ws (zak ps) && (zic ((zak ps).map zei) && (lcB ws (zak ps) && (dhB ws (zak ps) && zfk (zbh ws)))))) by unfold zyf;rw[c1,Bool.true_and]);rw[c1] at LP;obtain ⟨bW,oW,rfl,hblW,hcellW⟩:=hcW (by omega);have HK:=(hcellW 0 (by omega)).1;rw[show ws[0].kind=zbo ws 0 from (zdy (i:=0) (by omega)).symm] at HK;simp only[Nat.zero_mul,Nat.add_zero] at HK
 have KK:Hid (∀ w',Below w.heap.size w w'→w'.cell? ⟨bW,oW,none⟩=some (.int .i64 (zbo ws 0))):=fun w' hb=>(hb.cell (p:=⟨bW,oW,none⟩) hblW).trans HK
 have TR:=zaa (zqb o2)
 have tl:(zak ps).length≤24:=by have:=zne ps;omega
 have ml:(zbh ws).length≤128:=by have:=zjy ws;omega
 have len16:(0:Int) < (ws.length:Int):=by omega
 have L1:=zaa l1;have L2:=zaa l2;have LT:=zaa (fun w1 (hb:Below w.heap.size w w1)=>zgu (.slice aP ps.length cP) ps w1 (Rd.below RP.o hb) (by omega) (F.o.below hb));have LM:=zaa (fun w1 (hb:Below w.heap.size w w1)=>zfz (.slice (some ⟨bW,oW,none⟩) ws.length cW) ws w1 (Rd.below RW.o hb) (by omega));have LK:=zaa (fun v w1 (hb:Below w.heap.size w w1) h=>zmp (.slice (some ⟨bW,oW,none⟩) ws.length cW) v ws (zak ps) w1 (Rd.below RW.o hb) h l1 (by omega) TR.o);have LC:=zaa (fun v w1 (hb:Below w.heap.size w w1) h=>zgv (.slice (some ⟨bW,oW,none⟩) ws.length cW) v ws (zak ps) w1 (Rd.below RW.o hb) h l1 (by omega) (fun k hk=>(TR.o k hk).1));have LH:=zaa (fun v w1 (hb:Below w.heap.size w w1) h=>zeu (.slice (some ⟨bW,oW,none⟩) ws.length cW) v ws (zak ps) w1 (Rd.below RW.o hb) h l1 (by omega) TR.o);have LO:=zaa (fun v w1 h=>zkk v (zak ps) w1 h (by omega));have LI:=zaa (fun v w1 h=>zgt v (zbh ws) w1 h (by omega));clear l1 l2 o1 o2 c1 hcW hcellW HK TR F RP RW;generalize zbo ws 0=k0 at *;generalize zak ps=ts at *;generalize zbh ws=ms at *;generalize zjf ws ts=f1 at *;generalize zic (ts.map zei)=f2 at *;generalize lcB ws ts=f3 at *;generalize dhB ws ts=f4 at *;generalize zfk ms=f5 at *
 by_cases c2:k0=2
 case neg =>
  have q:(k0 != 2)=true:=by rw[bne_iff_ne];exact c2
  have E:=zaa (show zyf ws ps=false by rw[E0.o,show (k0 == 2)=false by rw[beq_eq_false_iff_ne];exact c2];rfl);clear c2;go_enter Tryz.func92,Tryz.ntmps92;go_wp2_with fail;refine (LP.o _ BW.o).mono ?_;rintro e w1 ⟨rfl,hb1⟩;have B1:=zaa (zab BW.o hb1 BW.o.size);clear x0 x1;obtain ⟨x0,x1⟩:=CA.o _ hb1;have kk:=KK.o _ B1.o;clear hb1;go_wp2;go_ret;exact ⟨zad E.o.symm,B1.o⟩
 have q:(k0 != 2)=false:=by rw[c2];rfl
 have E1:=zaa (show zyf ws ps=(f1 && (f2 && (f3 && (f4 && f5)))) by rw[E0.o,c2];rfl);clear c2 E0;go_enter Tryz.func92,Tryz.ntmps92;go_wp2_with fail;refine (LP.o _ BW.o).mono ?_;rintro e w1 ⟨rfl,hb1⟩;have B1:=zaa (zab BW.o hb1 BW.o.size);have BA:=zaa hb1;clear x0 x1 LP;obtain ⟨x0,x1⟩:=CA.o _ hb1;have kk:=KK.o _ B1.o;clear hb1;go_wp2_with fail;refine (LT.o _ B1.o).mono ?_;rintro e w2 ⟨v2,rfl,hr2,hb2⟩;obtain ⟨-,aT,cT,hvT,-⟩:=hr2.rd;subst hvT;have hz1:w.heap.size≤w1.heap.size:=B1.o.size;have hz2:w1.heap.size≤w2.heap.size:=hb2.size;have R2:=zaa hr2.rd;have B2:=zaa (zab B1.o hb2 hz1);have BA2:=zaa (zab BA.o hb2 BA.o.size);clear hr2 x0 x1 kk B1 BA KK LT hb2;obtain ⟨x0,x1⟩:=CA.o _ BA2.o;go_wp2_with fail;refine (LK.o _ _ B2.o R2.o).mono ?_;rintro e w3 ⟨rfl,hb3⟩;have hz3:w2.heap.size≤w3.heap.size:=hb3.size;have R3:=zaa (Rd.below R2.o hb3);have B3:=zaa (zab B2.o hb3 (by omega));have BA3:=zaa (zab BA2.o hb3 (by have:=BA2.o.size;omega));clear hb3 x0 x1 R2 B2 BA2
 cases f1 with
 | false =>
  go_wp2;go_ret;exact ⟨zad (by rw[E1.o];rfl),B3.o⟩
 | true =>
 go_wp2_with fail;refine (LO.o _ _ R3.o).mono ?_;rintro e w4 ⟨rfl,hb4⟩;have hz4:w3.heap.size≤w4.heap.size:=hb4.size;have R4:=zaa (Rd.below R3.o hb4);have B4:=zaa (zab B3.o hb4 (by omega));have BA4:=zaa (zab BA3.o hb4 (by have:=BA3.o.size;omega));clear hb4 R3 B3 BA3
 cases f2 with
 | false =>
  go_wp2;go_ret;exact ⟨zad (by rw[E1.o];rfl),B4.o⟩
 | true =>
 obtain ⟨x0,x1⟩:=CA.o _ BA4.o;go_wp2_with fail;refine (LC.o _ _ B4.o R4.o).mono ?_;rintro e w5 ⟨rfl,hb5⟩;have hz5:w4.heap.size≤w5.heap.size:=hb5.size;have R5:=zaa (Rd.below R4.o hb5);have B5:=zaa (zab B4.o hb5 (by omega));have BA5:=zaa (zab BA4.o hb5 (by have:=BA4.o.size;omega));clear hb5 x0 x1 R4 B4 BA4
 cases f3 with
 | false =>
  go_wp2;go_ret;exact ⟨zad (by rw[E1.o];rfl),B5.o⟩
 | true =>
 obtain ⟨x0,x1⟩:=CA.o _ BA5.o;go_wp2_with fail;refine (LH.o _ _ B5.o R5.o).mono ?_;rintro e w6 ⟨rfl,hb6⟩;have hz6:w5.heap.size≤w6.heap.size:=hb6.size;have B6:=zaa (zab B5.o hb6 (by omega));have BA6:=zaa (zab BA5.o hb6 (by have:=BA5.o.size;omega));clear hb6 x0 x1 R5 B5 BA5
 cases f4 with
 | false =>
  go_wp2;go_ret;exact ⟨zad (by rw[E1.o];rfl),B6.o⟩
 | true =>
 obtain ⟨x0,x1⟩:=CA.o _ BA6.o;go_wp2_with fail;refine (LM.o _ B6.o).mono ?_;rintro e w7 ⟨v7,rfl,hr7,hb7⟩;obtain ⟨-,aM,cM,hvM,-⟩:=hr7.rd;subst hvM;have B7:=zaa (zab B6.o hb7 (by omega));have R7:=zaa hr7.rd;clear hb7 hr7 x0 x1 B6 BA6;go_wp2_with fail;refine (LI.o _ _ R7.o).mono ?_;rintro e w' ⟨rfl,hw'⟩;subst w';go_wp2;go_ret;exact ⟨zad (by rw[E1.o];rfl),B7.o⟩
def yacn (ws:List Ino):Bool:=zfk (znu (zbh ws) 1) && zfk (znu (zbh ws) 2)
def zsz (ws:List Ino) (ps:List Den):Bool:=decide (ws.length=16) && (decide (ps.length=24) && (zbo ws 0 == 2 && (zun ws && (zsb ws ps && (zqq ws ps && yacn ws)))))
theorem zlu {x:Ino} (h:zga x=true):(∀ z∈x.map,zfp z=true)∧(x.kind=2→x.links=1):=by
 unfold zga at h;simp only[Bool.and_eq_true,decide_eq_true_eq] at h;obtain ⟨_,_,_,d,f⟩:=h;refine ⟨fun z hz=>?_,fun k=>?_⟩
 ·obtain ⟨i,hi,rfl⟩:=List.getElem_of_mem hz;have:=zpt d i hi;rw[List.getD_eq_getElem?_getD,List.getElem?_eq_getElem hi] at this;unfold entB at this;simp only[Option.getD_some,Bool.and_eq_true] at this;exact this.1
 ·unfold zsf at f;rw[if_neg (by omega),if_pos k] at f;simp only[Bool.and_eq_true,beq_iff_eq] at f;exact f.2
theorem ztb {ws:List Ino} (h:zun ws=true):∀ i (h:i < ws.length),∀ z∈ws[i].map,zfp z=true:=fun i hi=>(zlu ((of_decide_eq_true h:∀ k (h:k < ws.length),zga ws[k]=true) i hi)).1
theorem yabk (ws:List Ino) (ps:List Den):zyf ws ps=zsz ws ps:=by
 unfold zyf zsz zds
 by_cases l1:ws.length=16
 case neg=>simp[l1]
 by_cases l2:ps.length=24
 case neg=>simp[l2]
 rw[decide_eq_true l1,decide_eq_true l2,Bool.true_and,Bool.true_and,Bool.true_and,Bool.true_and]
 cases o1:zun ws
 ·simp
 cases o2:zvz ps
 ·have:zsb ws ps=false:=by
   rw[Bool.eq_false_iff];intro e;rw[yabt e] at o2
   cases o2
  rw[this];simp
 rw[yabe o2]
 cases f1:zjf ws (zak ps)
 ·simp
 cases f2:zic ((zak ps).map zei)
 ·simp
 rw[zzm l1 (fun i hi=>(zlu ((of_decide_eq_true o1:∀ k (h:k < ws.length),zga ws[k]=true) i hi)).2) o2 f1];have s1:yacn ws=zfk (zbh ws):=ztj (fun e he=>(zpd (ztb o1) e he).2);rw[s1];simp[Bool.and_assoc]
theorem zdw (v:Value) (ws:List Ino) (ps:List Den) (w:World) (h:RdIm w v ws ps) (hw:ws.length≤1048576) (hp:ps.length≤1048576) (hT:TS w) (hE:ED w) (hF:FD w) (hr:∀ k (h:k < ws.length),ws[k].R) (hs:∀ k (h:k < ps.length),ps[k].name.size≤maxLen) :
  Calls Tryz.prog 92 #[v] w fun e w'=>e=.returned (.bool (zsz ws ps))∧Below w.heap.size w w':=by
 rw[← yabk];exact zut v ws ps w h hw hp hT hE hF hr hs
theorem zzq {ws:List Ino} {ps:List Den} (h:zsz ws ps=true):ws.length=16∧ps.length=24∧zbo ws 0=2∧zun ws=true∧zsb ws ps=true∧zqq ws ps=true∧yacn ws=true:=by
 unfold zsz at h;simp only[Bool.and_eq_true,decide_eq_true_eq,beq_iff_eq] at h;exact h
theorem zta {x:Ino} (h:zga x=true):(0≤x.kind∧x.kind≤2)∧(0≤x.size∧x.size≤8)∧(0≤x.links∧x.links≤24)∧mapB x.map x.size=true∧zsf x=true:=by
 unfold zga at h;simp only[Bool.and_eq_true,decide_eq_true_eq] at h;exact h
end Go.Proofs.YtbohndgbfbfldaaGreatDoor
