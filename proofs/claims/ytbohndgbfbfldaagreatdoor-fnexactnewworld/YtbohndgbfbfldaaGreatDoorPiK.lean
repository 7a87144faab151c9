/- Inodes and entries, each alone: by the program. -/
import Derived.Test.YtbohndgbfbfldaaGreatDoorImX
import Derived.Test.YtbohndgbfbfldaaGreatDoorZAG
set_option maxRecDepth 100000
set_option maxHeartbeats 4000000
namespace Go.Proofs.YtbohndgbfbfldaaGreatDoor
open Go.RowKit
def zun (ws:List Ino):Bool:=decide (∀ k (h:k < ws.length),zga ws[k]=true)
theorem yacg {ws:List Ino} (h:∀ k (h:k < ws.length),zga ws[k]=true):zun ws=true:=decide_eq_true h
theorem zyz {ws:List Ino} {k:Nat} (hk:k < ws.length) (h:zga ws[k]=false):zun ws=false:=decide_eq_false (fun x=>by have:=x k hk;rw[h] at this;cases this)
theorem yabd {ps:List Den} (h:∀ k (h:k < ps.length),ps[k].okB=true):zvz ps=true:=decide_eq_true h
theorem zzs {ps:List Den} {k:Nat} (hk:k < ps.length) (h:ps[k].okB=false):zvz ps=false:=decide_eq_false (fun x=>by have:=x k hk;rw[h] at this;cases this)
theorem zix (v:Value) (ws:List Ino) (w:World) (h:RdN w v ws) (hn:ws.length≤1048576) (hT:TS w) (hE:ED w) (hr:∀ k (h:k < ws.length),ws[k].R) :
  Calls Tryz.prog 183 #[v,.func (.func 154) #[] #[]] w fun e w'=>e=.returned (.bool (zun ws))∧Below w.heap.size w w':=by
 obtain ⟨aW,cW,rfl,_,hcW⟩:=h.shape;have HW:=zaa hcW;have T:=zaa hT;have E0:=zaa hE;have HR:=zaa hr;clear h hcW hT hE hr;go_enter Tryz.func183,Tryz.ntmps183;go_wp2
 go_loopw [6,9] (fun _ i wr=>∃ k:Nat,k≤ws.length∧i=.int .i64 k∧Hid (Below w.heap.size w wr∧∀ j (h:j < ws.length),j < k→zga ws[j]=true)) (fun _ i _=>ws.length - (intOf i).toNat)
 case atStart=>exact ⟨0,by omega,rfl,Below.refl _ _,fun j h a=>absurd a (by omega)⟩
 case round =>
  obtain ⟨k,hk,rfl,H⟩:=hrel;have H1:=zaa H.o.1;have hz:w.heap.size≤wr.heap.size:=H.o.1.size
  by_cases hlt:k < ws.length
  ·obtain ⟨b,o,rfl,hbl,hcell⟩:=HW.o (by omega);obtain ⟨a0,a1,a2,a3,a4,a5,a6,a7,a8,a9,a10⟩:=hcell k hlt;have d0:=(H1.o.cell (p:=⟨b,o+k*11,none⟩) hbl).trans a0;have d1:=(H1.o.cell (p:=⟨b,o+k*11+1,none⟩) hbl).trans a1;have d2:=(H1.o.cell (p:=⟨b,o+k*11+2,none⟩) hbl).trans a2;have d3:=(H1.o.cell (p:=⟨b,o+k*11+3,none⟩) hbl).trans a3;have d4:=(H1.o.cell (p:=⟨b,o+k*11+4,none⟩) hbl).trans a4;have d5:=(H1.o.cell (p:=⟨b,o+k*11+5,none⟩) hbl).trans a5;have d6:=(H1.o.cell (p:=⟨b,o+k*11+6,none⟩) hbl).trans a6;have d7:=(H1.o.cell (p:=⟨b,o+k*11+7,none⟩) hbl).trans a7;have d8:=(H1.o.cell (p:=⟨b,o+k*11+8,none⟩) hbl).trans a8;have d9:=(H1.o.cell (p:=⟨b,o+k*11+9,none⟩) hbl).trans a9;have d10:=(H1.o.cell (p:=⟨b,o+k*11+10,none⟩) hbl).trans a10
   have k0:(0:Int)≤(k:Int):=by omega
   have k1:(k:Int) < (ws.length:Int):=by omega
   have B2:=zaa (H1.o.alloc hz (.cells ws[k].cs.toArray 149));have LI:=zaa (fun w1 (h:Below w.heap.size w w1)=>zil ws[k] w1 (T.o.below h) (E0.o.below h) (HR.o k hlt));have H2:Hid (∀ j (h:j < ws.length),j < k→zga ws[j]=true):=H.o.2;clear a0 a1 a2 a3 a4 a5 a6 a7 a8 a9 a10 hcell H
   cases q:zga ws[k] with
   | true =>
    have H':Hid (∀ j (h:j < ws.length),j < k+1→zga ws[j]=true):=fun j h a=>by
     by_cases e:j=k
     ·subst e;exact q
     ·exact H2.o j h (by omega)
    rw[q] at LI;clear q H2;generalize ws[k]=x at d0 d1 d2 d3 d4 d5 d6 d7 d8 d9 d10 B2 LI;go_wp2_with fail;refine (LI.o _ B2.o).mono ?_;rintro e w1 ⟨rfl,hb1⟩;have B3:=zaa (zab B2.o hb1 B2.o.size);clear hb1 d0 d1 d2 d3 d4 d5 d6 d7 d8 d9 d10;go_wp2
    go_roundw
    case rel=>exact ⟨k+1,by omega,by go_num,B3.o,H'.o⟩
    case measure=>simp[intOf];omega
   | false =>
    have E:=zaa (zyz hlt q);rw[q] at LI;clear q H2;generalize ws[k]=x at d0 d1 d2 d3 d4 d5 d6 d7 d8 d9 d10 B2 LI;go_wp2_with fail;refine (LI.o _ B2.o).mono ?_;rintro e w1 ⟨rfl,hb1⟩;have B3:=zaa (zab B2.o hb1 B2.o.size);clear hb1 d0 d1 d2 d3 d4 d5 d6 d7 d8 d9 d10;go_wp2;go_ret;exact ⟨zad E.o.symm,B3.o⟩
  ·have E:=zaa (yacg (fun j h=>H.o.2 j h (by omega)));clear H;go_wp2;go_ret;exact ⟨zad E.o.symm,H1.o⟩
theorem zip (v:Value) (ps:List Den) (w:World) (h:RdD w v ps) (hn:ps.length≤1048576) (hF:FD w) (hs:∀ k (h:k < ps.length),ps[k].name.size≤maxLen) :
  Calls Tryz.prog 184 #[v,.func (.func 185) #[] #[]] w fun e w'=>e=.returned (.bool (zvz ps))∧Below w.heap.size w w':=by
 obtain ⟨aP,cP,rfl,_,hcP⟩:=h.shape;have HP:=zaa hcP;have F:=zaa hF;have HS:=zaa hs;clear h hcP hF hs;go_enter Tryz.func184,Tryz.ntmps184;go_wp2
 go_loopw [6,9] (fun _ i wr=>∃ k:Nat,k≤ps.length∧i=.int .i64 k∧Hid (Below w.heap.size w wr∧∀ j (h:j < ps.length),j < k→ps[j].okB=true)) (fun _ i _=>ps.length - (intOf i).toNat)
 case atStart=>exact ⟨0,by omega,rfl,Below.refl _ _,fun j h a=>absurd a (by omega)⟩
 case round =>
  obtain ⟨k,hk,rfl,H⟩:=hrel;have H1:=zaa H.o.1;have hz:w.heap.size≤wr.heap.size:=H.o.1.size
  by_cases hlt:k < ps.length
  ·obtain ⟨b,o,rfl,hbl,hcell⟩:=HP.o (by omega);obtain ⟨a0,a1,a2⟩:=hcell k hlt;have d0:=(H1.o.cell (p:=⟨b,o+k*3,none⟩) hbl).trans a0;have d1:=(H1.o.cell (p:=⟨b,o+k*3+1,none⟩) hbl).trans a1;have d2:=(H1.o.cell (p:=⟨b,o+k*3+2,none⟩) hbl).trans a2
   have k0:(0:Int)≤(k:Int):=by omega
   have k1:(k:Int) < (ps.length:Int):=by omega
   have B2:=zaa (H1.o.alloc hz (.cells #[.int .i64 ps[k].dir,.string ps[k].name,.int .i64 ps[k].child] 143));have LI:=zaa (fun w1 (h:Below w.heap.size w w1)=>zmx ps[k] w1 (F.o.below h) (HS.o k hlt));have H2:Hid (∀ j (h:j < ps.length),j < k→ps[j].okB=true):=H.o.2;clear a0 a1 a2 hcell H
   cases q:ps[k].okB with
   | true =>
    have H':Hid (∀ j (h:j < ps.length),j < k+1→ps[j].okB=true):=fun j h a=>by
     by_cases e:j=k
     ·subst e;exact q
     ·exact H2.o j h (by omega)
    rw[q] at LI;clear q H2;generalize ps[k]=x at d0 d1 d2 B2 LI;go_wp2_with fail;refine (LI.o _ B2.o).mono ?_;rintro e w1 ⟨rfl,hb1⟩;have B3:=zaa (zab B2.o hb1 B2.o.size);clear hb1 d0 d1 d2;go_wp2
    go_roundw
    case rel=>exact ⟨k+1,by omega,by go_num,B3.o,H'.o⟩
    case measure=>simp[intOf];omega
   | false =>
    have E:=zaa (zzs hlt q);rw[q] at LI;clear q H2;generalize ps[k]=x at d0 d1 d2 B2 LI;go_wp2_with fail;refine (LI.o _ B2.o).mono ?_;rintro e w1 ⟨rfl,hb1⟩;have B3:=zaa (zab B2.o hb1 B2.o.size);clear hb1 d0 d1 d2;go_wp2;go_ret;exact ⟨zad E.o.symm,B3.o⟩
  ·have E:=zaa (yabd (fun j h=>H.o.2 j h (by omega)));clear H;go_wp2;go_ret;exact ⟨zad E.o.symm,H1.o⟩
def zds (ws:List Ino) (ps:List Den):Bool:=decide (ws.length=16) && (decide (ps.length=24) && (zun ws && zvz ps))
theorem zpb (v:Value) (ws:List Ino) (ps:List Den) (w:World) (h:RdIm w v ws ps) (hw:ws.length≤1048576) (hp:ps.length≤1048576) (hT:TS w) (hE:ED w) (hF:FD w) (hr:∀ k (h:k < ws.length),ws[k].R) (hs:∀ k (h:k < ps.length),ps[k].name.size≤maxLen) :
  Calls Tryz.prog 143 #[v] w fun e w'=>e=.returned (.bool (zds ws ps))∧Below w.heap.size w w':=by
 obtain ⟨vW,vP,rfl,h1,h2⟩:=h;have RW:=zaa h1;have RP:=zaa h2;obtain ⟨aW,cW,rfl,_,_⟩:=h1.shape;obtain ⟨aP,cP,rfl,_,_⟩:=h2.shape;have BW:=zaa ((Below.refl w.heap.size w).alloc (Nat.le_refl _) (.cells #[.slice aW ws.length cW,.slice aP ps.length cP] 123))
 have CA:Hid (∀ w',Below (w.alloc (.cells #[.slice aW ws.length cW,.slice aP ps.length cP] 123)).heap.size (w.alloc (.cells #[.slice aW ws.length cW,.slice aP ps.length cP] 123)) w'→w'.cell? ⟨w.heap.size,0,none⟩=some (.slice aW ws.length cW)∧w'.cell? ⟨w.heap.size,1,none⟩=some (.slice aP ps.length cP)):=fun w' hb=>by
  have:w'.heap[w.heap.size]?=some (.cells #[.slice aW ws.length cW,.slice aP ps.length cP] 123 (0,0)):=(hb.block _ (by simp)).trans (zae rfl);exact ⟨(zac this).1,(zac this).2.1⟩
 have LN:=zaa (fun w1 (hb:Below w.heap.size w w1)=>zix (.slice aW ws.length cW) ws w1 (Rd.below RW.o hb) hw (hT.below hb) (hE.below hb) hr);have LD:=zaa (fun w1 (hb:Below w.heap.size w w1)=>zip (.slice aP ps.length cP) ps w1 (Rd.below RP.o hb) hp (hF.below hb) hs);obtain ⟨x0,x1⟩:=CA.o _ (Below.refl _ _);clear h1 h2 hT hE hF hr hs
 by_cases c1:ws.length=16
 case neg =>
  have E:=zaa (show zds ws ps=false by unfold zds;rw[decide_eq_false c1];rfl)
  have q:((ws.length:Int) == 16)=false:=by rw[beq_eq_false_iff_ne];omega
  clear c1;go_enter Tryz.func143,Tryz.ntmps143;go_wp2;go_ret;exact ⟨zad E.o.symm,BW.o⟩
 have q:((ws.length:Int) == 16)=true:=by rw[beq_iff_eq];omega
 by_cases c2:ps.length=24
 case neg =>
  have E:=zaa (show zds ws ps=false by unfold zds;rw[decide_eq_false c2,Bool.false_and,Bool.and_false])
  have q2:((ps.length:Int) == 24)=false:=by rw[beq_eq_false_iff_ne];omega
  clear c1 c2;go_enter Tryz.func143,Tryz.ntmps143;go_wp2;go_ret;exact ⟨zad E.o.symm,BW.o⟩
 have q2:((ps.length:Int) == 24)=true:=by rw[beq_iff_eq];omega
 have E:=zaa (show zds ws ps=(zun ws && zvz ps) by unfold zds;rw[decide_eq_true c1,decide_eq_true c2];rfl);clear c1 c2
 cases q3:zun ws with
 | false =>
  rw[q3] at E LN;clear q3;go_enter Tryz.func143,Tryz.ntmps143;go_wp2_with fail;refine (LN.o _ BW.o).mono ?_;rintro e w1 ⟨rfl,hb1⟩;have B1:=zaa (zab BW.o hb1 BW.o.size);clear hb1 x0 x1;go_wp2;go_ret;exact ⟨zad (by rw[E.o];rfl),B1.o⟩
 | true =>
  rw[q3] at E LN;clear q3;go_enter Tryz.func143,Tryz.ntmps143;go_wp2_with fail;refine (LN.o _ BW.o).mono ?_;rintro e w1 ⟨rfl,hb1⟩;have B1:=zaa (zab BW.o hb1 BW.o.size);clear x0 x1;obtain ⟨x0,x1⟩:=CA.o _ hb1;clear hb1;go_wp2_with fail;refine (LD.o _ B1.o).mono ?_;rintro e w2 ⟨rfl,hb2⟩;have B2:=zaa (zab B1.o hb2 B1.o.size);clear hb2 x0 x1;go_wp2;go_ret;exact ⟨zad (by rw[E.o];rfl),B2.o⟩
end Go.Proofs.YtbohndgbfbfldaaGreatDoor
