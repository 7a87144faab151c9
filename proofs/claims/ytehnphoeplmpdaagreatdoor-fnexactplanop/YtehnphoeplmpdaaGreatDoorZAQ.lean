/- Several texts laid together: PiQ, PaB. -/
import Derived.Test.YtehnphoeplmpdaaGreatDoorPiP
import Derived.Test.YtehnphoeplmpdaaGreatDoorZAM
set_option maxRecDepth 100000
set_option maxHeartbeats 4000000
namespace Go.Proofs.YtehnphoeplmpdaaGreatDoor
open Go.RowKit
def fpV (b:Bool) (r:Int):Int:=if b=true then zgb r else 0
def fpC (b:Bool) (r:Int):Int:=if b=true then zfq r else 1
theorem znz (v:Value) (ws:List Ino) (ps:List Den) (t:Int) (n:Nat) (w:World) (h:RdIm w v ws ps) (hl:ws.length≤4096) (hr:∀ k (h:k < ws.length),∀ z∈ws[k].map,0≤z∧z≤1048576) (hn:n≤1000) :
  Calls Tryz.prog 139 #[v,.int .i64 t,.int .i64 (n:Int)] w fun e w'=>e=.returned (.int .i64 (zas (fun i=>!zeq (zaw (zam ws) t) (i:Int)) n))∧Below w.heap.size w w':=by
 have HRD:=zaa h;have LU:=zaa (fun w1 h=>zqc v ws ps t w1 h hl hr)
 have UL:(zaw (zam ws) t).length≤1048576:=by have:=zgf (zam ws) t;have:=zep ws;omega
 obtain ⟨vW,vP,rfl,h1,h2⟩:=h;obtain ⟨aW,cW,rfl,_,hcW⟩:=h1.shape;obtain ⟨aP,cP,rfl,_,_⟩:=h2.shape;clear h1 h2 hcW hr
 have CA:Hid (∀ w',Below (w.alloc (.cells #[.slice aW ws.length cW,.slice aP ps.length cP] 79)).heap.size (w.alloc (.cells #[.slice aW ws.length cW,.slice aP ps.length cP] 79)) w'→w'.cell? ⟨w.heap.size,0,none⟩=some (.slice aW ws.length cW)∧w'.cell? ⟨w.heap.size,1,none⟩=some (.slice aP ps.length cP)):=fun w' hb=>by
  have:w'.heap[w.heap.size]?=some (.cells #[.slice aW ws.length cW,.slice aP ps.length cP] 79 (0,0)):=(hb.block _ (by simp)).trans (zah rfl);exact ⟨(zac this).1,(zac this).2.1⟩
 have BW:Hid (Below w.heap.size w (w.alloc (.cells #[.slice aW ws.length cW,.slice aP ps.length cP] 79))):=(Below.refl _ _).alloc (Nat.le_refl _) _;obtain ⟨x0,x1⟩:=CA.o _ (Below.refl _ _);generalize zaw (zam ws) t=zs at *;go_enter Tryz.func139,Tryz.ntmps139;go_wp2_with fail;refine (LU.o _ (HRD.o.below BW.o)).mono ?_;rintro e w1 ⟨v1,rfl,hr1,hb1⟩;obtain ⟨-,aL,cL,hvL,-⟩:=hr1.rd;subst hvL;have R1:Hid (RdI w1 (.slice aL zs.length cL) zs):=hr1.rd;have B1:=zaa (zab BW.o hb1 BW.o.size);clear hr1 hb1 x0 x1 CA;go_wp2
 go_loopw [8] (fun i wr=>∃ k:Nat,k≤n∧i=.int .i64 k∧wr=w1∧Hid (∀ j,j < k→(!zeq zs (j:Int))=false)) (fun i _=>n - (intOf i).toNat)
 case atStart=>exact ⟨0,by omega,rfl,rfl,fun j a=>absurd a (by omega)⟩
 case round =>
  obtain ⟨k,hk,rfl,rfl,H⟩:=hrel
  have k0:(0:Int)≤(k:Int):=by omega
  by_cases hlt:k < n
  ·have k1:(k:Int) < (n:Int):=by omega
   have LH:=zaa (zlk (.slice aL zs.length cL) zs (k:Int) _ R1.o UL)
   cases q:zeq zs (k:Int) with
   | true =>
    have H':Hid (∀ j,j < k+1→(!zeq zs (j:Int))=false):=fun j a=>by
     by_cases e:j=k
     ·subst e;rw[q];rfl
     ·exact H.o j (by omega)
    rw[q] at LH;clear q H;go_wp2_with (go_at_call 219;refine LH.o.mono ?_;rintro e w' ⟨rfl,rfl⟩)
    go_roundw
    case rel=>exact ⟨k+1,by omega,by go_num,trivial,H'⟩
    case measure=>simp[intOf];omega
   | false =>
    have E:=zaa (zfl (p:=fun i=>!zeq zs (i:Int)) hlt H.o (by rw[q];rfl));rw[q] at LH;clear q H;go_wp2_with (go_at_call 219;refine LH.o.mono ?_;rintro e w' ⟨rfl,rfl⟩);go_ret;exact ⟨zcd E.o.symm,B1.o⟩
  ·have E:=zaa (zdh (p:=fun i=>!zeq zs (i:Int)) (n:=n) (fun j hj=>H.o j (by omega)));clear H;go_wp2;go_ret;exact ⟨zcd E.o.symm,B1.o⟩
theorem zhz (v:Value) (ws:List Ino) (ps:List Den) (t:Nat) (n:Nat) (w:World) (h:RdIm w v ws ps) (hw:ws.length≤1048576) (hp:ps.length≤1048576) (hT:TS w) (hE:ED w) (hF:FD w) (hr:∀ k (h:k < ws.length),ws[k].R) (hs:∀ k (h:k < ps.length),ps[k].name.size≤maxLen) (ht:(t=1∧n=24)∨(t=2∧n=32)) :
  Calls Tryz.prog 293 #[v,.int .i64 (t:Int)] w fun e w'=>e=.returned (.tuple #[.int .i64 (fpV (zay ws ps) (zas (fun i=>!zeq (zaw (zam ws) (t:Int)) (i:Int)) n)),.int .i64 (fpC (zay ws ps) (zas (fun i=>!zeq (zaw (zam ws) (t:Int)) (i:Int)) n))])∧Below w.heap.size w w':=by
 have LU:=zaa (fun w1 (hb:Below w.heap.size w w1)=>zrc v ws ps (t:Int) w1 (h.below hb) hw hp (hT.below hb) (hE.below hb) (hF.below hb) hr hs);have T:=zaa hT;obtain ⟨vW,vP,rfl,h1,h2⟩:=h;obtain ⟨aW,cW,rfl,_,hcW⟩:=h1.shape;obtain ⟨aP,cP,rfl,_,_⟩:=h2.shape;clear h1 h2 hr hs hT hE hF hcW
 have CA:Hid (∀ w',Below (w.alloc (.cells #[.slice aW ws.length cW,.slice aP ps.length cP] 79)).heap.size (w.alloc (.cells #[.slice aW ws.length cW,.slice aP ps.length cP] 79)) w'→w'.cell? ⟨w.heap.size,0,none⟩=some (.slice aW ws.length cW)∧w'.cell? ⟨w.heap.size,1,none⟩=some (.slice aP ps.length cP)):=fun w' hb=>by
  have:w'.heap[w.heap.size]?=some (.cells #[.slice aW ws.length cW,.slice aP ps.length cP] 79 (0,0)):=(hb.block _ (by simp)).trans (zah rfl);exact ⟨(zac this).1,(zac this).2.1⟩
 have BW:Hid (Below w.heap.size w (w.alloc (.cells #[.slice aW ws.length cW,.slice aP ps.length cP] 79))):=(Below.refl _ _).alloc (Nat.le_refl _) _;obtain ⟨x0,x1⟩:=CA.o _ (Below.refl _ _)
 have c2:(t:Int)=1∨(t:Int)=2:=by rcases ht with ⟨e,_⟩ | ⟨e,_⟩ <;> rw[e] <;> decide
 cases c1:zay ws ps with
 | false =>
  rw[c1] at LU
  have e1:=show ubC false (t:Int)=1 from rfl
  have e2:ubL false (zam ws) (t:Int)=[]:=if_neg (fun h=>by cases h.1);rw[e1,e2] at LU;generalize zas (fun i=>!zeq (zaw (zam ws) (t:Int)) (i:Int)) n=r;rw[show fpV false r=0 from rfl,show fpC false r=1 from rfl];clear c1 e1 e2;go_enter Tryz.func293,Tryz.ntmps293;go_wp2_with fail;refine (LU.o _ BW.o).mono ?_;rintro e w1 ⟨v1,rfl,hr1,hb1⟩;obtain ⟨-,aL,cL,hvL,-⟩:=hr1.rd;subst hvL;have B1:=zaa (zab BW.o hb1 BW.o.size);clear hr1 hb1 x0 x1;go_wp2;go_ret2;exact ⟨rfl,B1.o⟩
 | true =>
 rw[c1] at LU
 have e1:ubC true (t:Int)=0:=by unfold ubC;rw[if_pos rfl,if_pos c2]
 have e2:ubL true (zam ws) (t:Int)=zaw (zam ws) (t:Int):=if_pos ⟨rfl,c2⟩
 have UL:(zaw (zam ws) (t:Int)).length≤1048576:=by have:=zgf (zam ws) (t:Int);have:=zep ws;have:=(zec c1).1;omega
 rw[e1,e2] at LU;generalize zaw (zam ws) (t:Int)=zs at *
 have TC:Hid (∀ w',Below w.heap.size w w'→w'.cell? ⟨4,t,none⟩=some (.int .i64 (n:Int))):=fun w' hb=>by
  obtain ⟨a0,a1,a2⟩:=TS.cells (T.o.below hb)
  rcases ht with ⟨rfl,rfl⟩ | ⟨rfl,rfl⟩
  ·exact a1
  ·exact a2
 have t0:(0:Int)≤(t:Int):=by rcases ht with ⟨e,_⟩ | ⟨e,_⟩ <;> rw[e] <;> decide
 have t3:(t:Int) < 3:=by rcases ht with ⟨e,_⟩ | ⟨e,_⟩ <;> rw[e] <;> decide
 have n1:n≤32:=by rcases ht with ⟨_,e⟩ | ⟨_,e⟩ <;> rw[e] <;> decide
 clear c1 c2 e1 e2 ht T;go_enter Tryz.func293,Tryz.ntmps293;go_wp2_with fail;refine (LU.o _ BW.o).mono ?_;rintro e w1 ⟨v1,rfl,hr1,hb1⟩;obtain ⟨-,aL,cL,hvL,-⟩:=hr1.rd;subst hvL;have R1:Hid (RdI w1 (.slice aL zs.length cL) zs):=hr1.rd;have B1:=zaa (zab BW.o hb1 BW.o.size);have tc:=TC.o _ B1.o;clear hr1 hb1 x0 x1 CA;go_wp2
 go_loopw [8,21] (fun _ i wr=>∃ k:Nat,k≤n∧i=.int .i64 k∧wr=w1∧Hid (∀ j,j < k→(!zeq zs (j:Int))=false)) (fun _ i _=>n - (intOf i).toNat)
 case atStart=>exact ⟨0,by omega,rfl,rfl,fun j a=>absurd a (by omega)⟩
 case round =>
  obtain ⟨k,hk,rfl,rfl,H⟩:=hrel
  have k0:(0:Int)≤(k:Int):=by omega
  by_cases hlt:k < n
  ·have k1:(k:Int) < (n:Int):=by omega
   have LH:=zaa (zfb (.slice aL zs.length cL) zs (k:Int) _ R1.o UL)
   cases q:zeq zs (k:Int) with
   | true =>
    have H':Hid (∀ j,j < k+1→(!zeq zs (j:Int))=false):=fun j a=>by
     by_cases e:j=k
     ·subst e;rw[q];rfl
     ·exact H.o j (by omega)
    rw[q] at LH;clear q H;go_wp2_with (go_at_call 169;refine LH.o.mono ?_;rintro e w' ⟨rfl,rfl⟩)
    go_roundw
    case rel=>exact ⟨k+1,by omega,by go_num,trivial,H'⟩
    case measure=>simp[intOf];omega
   | false =>
    have E:=zaa (zfl (p:=fun i=>!zeq zs (i:Int)) hlt H.o (by rw[q];rfl));have E1:=zaa (show fpV true (k:Int)=(k:Int) by unfold fpV zgb;rw[if_pos rfl,if_neg (by omega)]);have E2:=zaa (show fpC true (k:Int)=0 by unfold fpC zfq;rw[if_pos rfl,if_neg (by omega)]);rw[q] at LH;clear q H;go_wp2_with (go_at_call 169;refine LH.o.mono ?_;rintro e w' ⟨rfl,rfl⟩);go_ret2;exact ⟨zbt (by rw[E.o,E1.o]) (by rw[E.o,E2.o]),B1.o⟩
  ·have E:=zaa (zdh (p:=fun i=>!zeq zs (i:Int)) (n:=n) (fun j hj=>H.o j (by omega)));clear H;go_wp2;go_ret2;exact ⟨zbt (by rw[E.o];rfl) (by rw[E.o];rfl),B1.o⟩
theorem znb (v:Value) (ws:List Ino) (ps:List Den) (w:World) (h:RdIm w v ws ps) (hw:ws.length≤1048576) (hp:ps.length≤1048576) (hT:TS w) (hE:ED w) (hF:FD w) (hr:∀ k (h:k < ws.length),ws[k].R) (hs:∀ k (h:k < ps.length),ps[k].name.size≤maxLen) :
  Calls Tryz.prog 245 #[v] w fun e w'=>e=.returned (.tuple #[.int .i64 (fpV (zay ws ps) (zas (fun i=>!zeq (zaw (zam ws) 1) (i:Int)) 24)),.int .i64 (fpC (zay ws ps) (zas (fun i=>!zeq (zaw (zam ws) 1) (i:Int)) 24))])∧Below w.heap.size w w':=by
 have LF:=zaa (fun w1 (hb:Below w.heap.size w w1)=>zhz v ws ps 1 24 w1 (h.below hb) hw hp (hT.below hb) (hE.below hb) (hF.below hb) hr hs (by omega));rw[show ((1:Nat):Int)=1 from rfl] at LF;obtain ⟨vW,vP,rfl,h1,h2⟩:=h;obtain ⟨aW,cW,rfl,_,hcW⟩:=h1.shape;obtain ⟨aP,cP,rfl,_,_⟩:=h2.shape;clear h1 h2 hr hs hcW hT hE hF
 have CA:Hid (∀ w',Below (w.alloc (.cells #[.slice aW ws.length cW,.slice aP ps.length cP] 79)).heap.size (w.alloc (.cells #[.slice aW ws.length cW,.slice aP ps.length cP] 79)) w'→w'.cell? ⟨w.heap.size,0,none⟩=some (.slice aW ws.length cW)∧w'.cell? ⟨w.heap.size,1,none⟩=some (.slice aP ps.length cP)):=fun w' hb=>by
  have:w'.heap[w.heap.size]?=some (.cells #[.slice aW ws.length cW,.slice aP ps.length cP] 79 (0,0)):=(hb.block _ (by simp)).trans (zah rfl);exact ⟨(zac this).1,(zac this).2.1⟩
 have BW:Hid (Below w.heap.size w (w.alloc (.cells #[.slice aW ws.length cW,.slice aP ps.length cP] 79))):=(Below.refl _ _).alloc (Nat.le_refl _) _;obtain ⟨x0,x1⟩:=CA.o _ (Below.refl _ _);generalize fpV (zay ws ps) (zas (fun i=>!zeq (zaw (zam ws) 1) (i:Int)) 24)=r1 at *;generalize fpC (zay ws ps) (zas (fun i=>!zeq (zaw (zam ws) 1) (i:Int)) 24)=r2 at *;go_enter Tryz.func245,Tryz.ntmps245;go_wp2_with fail;refine (LF.o _ BW.o).mono ?_;rintro e w1 ⟨rfl,hb1⟩;have B1:=zaa (zab BW.o hb1 BW.o.size);clear hb1 x0 x1;go_wp2;go_ret2;exact ⟨rfl,B1.o⟩
theorem zkp (v:Value) (ws:List Ino) (ps:List Den) (w:World) (h:RdIm w v ws ps) (hw:ws.length≤1048576) (hp:ps.length≤1048576) (hT:TS w) (hE:ED w) (hF:FD w) (hr:∀ k (h:k < ws.length),ws[k].R) (hs:∀ k (h:k < ps.length),ps[k].name.size≤maxLen) :
  Calls Tryz.prog 246 #[v] w fun e w'=>e=.returned (.tuple #[.int .i64 (fpV (zay ws ps) (zas (fun i=>!zeq (zaw (zam ws) 2) (i:Int)) 32)),.int .i64 (fpC (zay ws ps) (zas (fun i=>!zeq (zaw (zam ws) 2) (i:Int)) 32))])∧Below w.heap.size w w':=by
 have LF:=zaa (fun w1 (hb:Below w.heap.size w w1)=>zhz v ws ps 2 32 w1 (h.below hb) hw hp (hT.below hb) (hE.below hb) (hF.below hb) hr hs (by omega));rw[show ((2:Nat):Int)=2 from rfl] at LF;obtain ⟨vW,vP,rfl,h1,h2⟩:=h;obtain ⟨aW,cW,rfl,_,hcW⟩:=h1.shape;obtain ⟨aP,cP,rfl,_,_⟩:=h2.shape;clear h1 h2 hr hs hcW hT hE hF
 have CA:Hid (∀ w',Below (w.alloc (.cells #[.slice aW ws.length cW,.slice aP ps.length cP] 79)).heap.size (w.alloc (.cells #[.slice aW ws.length cW,.slice aP ps.length cP] 79)) w'→w'.cell? ⟨w.heap.size,0,none⟩=some (.slice aW ws.length cW)∧w'.cell? ⟨w.heap.size,1,none⟩=some (.slice aP ps.length cP)):=fun w' hb=>by
  have:w'.heap[w.heap.size]?=some (.cells #[.slice aW ws.length cW,.slice aP ps.length cP] 79 (0,0)):=(hb.block _ (by simp)).trans (zah rfl);exact ⟨(zac this).1,(zac this).2.1⟩
 have BW:Hid (Below w.heap.size w (w.alloc (.cells #[.slice aW ws.length cW,.slice aP ps.length cP] 79))):=(Below.refl _ _).alloc (Nat.le_refl _) _;obtain ⟨x0,x1⟩:=CA.o _ (Below.refl _ _);generalize fpV (zay ws ps) (zas (fun i=>!zeq (zaw (zam ws) 2) (i:Int)) 32)=r1 at *;generalize fpC (zay ws ps) (zas (fun i=>!zeq (zaw (zam ws) 2) (i:Int)) 32)=r2 at *;go_enter Tryz.func246,Tryz.ntmps246;go_wp2_with fail;refine (LF.o _ BW.o).mono ?_;rintro e w1 ⟨rfl,hb1⟩;have B1:=zaa (zab BW.o hb1 BW.o.size);clear hb1 x0 x1;go_wp2;go_ret2;exact ⟨rfl,B1.o⟩
theorem zmw (v:Value) (ws:List Ino) (ps:List Den) (w:World) (h:RdIm w v ws ps) (hl:ws.length≤4096) :
  Calls Tryz.prog 226 #[v] w fun e w'=>e=.returned (.int .i64 (zas (fun i=>decide (1≤i) && zai ws (i:Int) == 0) ws.length))∧Below w.heap.size w w':=by
 obtain ⟨vW,vP,rfl,h1,h2⟩:=h;obtain ⟨aW,cW,rfl,_,hcW⟩:=h1.shape;obtain ⟨aP,cP,rfl,_,_⟩:=h2.shape;have HW:=zaa hcW;clear h1 h2 hcW
 have CA:Hid (∀ w',Below (w.alloc (.cells #[.slice aW ws.length cW,.slice aP ps.length cP] 79)).heap.size (w.alloc (.cells #[.slice aW ws.length cW,.slice aP ps.length cP] 79)) w'→w'.cell? ⟨w.heap.size,0,none⟩=some (.slice aW ws.length cW)∧w'.cell? ⟨w.heap.size,1,none⟩=some (.slice aP ps.length cP)):=fun w' hb=>by
  have:w'.heap[w.heap.size]?=some (.cells #[.slice aW ws.length cW,.slice aP ps.length cP] 79 (0,0)):=(hb.block _ (by simp)).trans (zah rfl);exact ⟨(zac this).1,(zac this).2.1⟩
 have BW:Hid (Below w.heap.size w (w.alloc (.cells #[.slice aW ws.length cW,.slice aP ps.length cP] 79))):=(Below.refl _ _).alloc (Nat.le_refl _) _;obtain ⟨x0,x1⟩:=CA.o _ (Below.refl _ _);clear x0 x1
 obtain ⟨W,hW⟩:∃ W,W=w.alloc (.cells #[.slice aW ws.length cW,.slice aP ps.length cP] 79):=⟨_,rfl⟩
 rw[← hW] at CA BW;obtain ⟨y0,y1⟩:=CA.o _ (Below.refl _ _);go_enter Tryz.func226,Tryz.ntmps226;go_wp2;rw[← hW];clear hW
 go_loopw [3] (fun i wr=>∃ k:Nat,(1≤k∧(k≤ws.length∨k=1))∧i=.int .i64 k∧wr=W∧Hid (∀ j,j < k→(decide (1≤j) && zai ws (j:Int) == 0)=false)) (fun i _=>ws.length+1 - (intOf i).toNat)
 case atStart=>exact ⟨1,by omega,rfl,rfl,fun j a=>by rw[decide_eq_false (by omega)];rfl⟩
 case round =>
  obtain ⟨k,hk,rfl,rfl,H⟩:=hrel
  have k0:(0:Int)≤(k:Int):=by omega
  by_cases hlt:k < ws.length
  ·obtain ⟨b,o,rfl,hbl,hcell⟩:=HW.o (by omega);have d0:=(BW.o.cell (p:=⟨b,o+k*11,none⟩) hbl).trans (hcell k hlt).1;rw[← zba hlt] at d0
   have k1:(k:Int) < (ws.length:Int):=by omega
   have P:=zaa (show (decide (1≤k) && zai ws (k:Int) == 0)=(zai ws (k:Int) == 0) by rw[decide_eq_true hk.1];rfl);clear hcell
   cases q:(zai ws (k:Int) == 0) with
   | true =>
    have E:=zaa (zfl (p:=fun i=>decide (1≤i) && zai ws (i:Int) == 0) hlt H.o (by show (decide (1≤k) && zai ws (k:Int) == 0)=true;rw[P.o,q]));clear H P;generalize zai ws (k:Int)=z at d0 q;go_wp2;go_ret;exact ⟨zcd E.o.symm,BW.o⟩
   | false =>
    have H':Hid (∀ j,j < k+1→(decide (1≤j) && zai ws (j:Int) == 0)=false):=fun j a=>by
     by_cases e:j=k
     ·subst e;rw[P.o,q]
     ·exact H.o j (by omega)
    clear H P;generalize zai ws (k:Int)=z at d0 q;go_wp2
    go_roundw
    case rel=>exact ⟨k+1,by omega,by go_num,trivial,H'⟩
    case measure=>simp[intOf];omega
  ·have E:=zaa (zdh (p:=fun i=>decide (1≤i) && zai ws (i:Int) == 0) (n:=ws.length) (fun j hj=>H.o j (by omega)))
   have k2:¬ (k:Int) < (ws.length:Int):=by omega
   clear H;go_wp2;go_ret;exact ⟨zcd E.o.symm,BW.o⟩
def zav:Ino:=⟨0,0,0,0,0,0,0,0,0,0,0⟩
theorem zqx (v:Value) (ws:List Ino) (w:World) (h:RdN w v ws) (hn:ws.length≤1048576) :
  Calls Tryz.prog 296 #[v,zav.v] w fun e w'=>e=.returned (.int .i64 (zas (fun i=>zfr zav.ns (ws.getD i zav).ns) ws.length))∧Below w.heap.size w w':=by
 obtain ⟨aZ,cZ,rfl,_,hcZ⟩:=h.shape;have HZ:=zaa hcZ;have BW:=zaa ((Below.refl w.heap.size w).alloc (Nat.le_refl _) (.cells zav.cs.toArray 133))
 have CA:Hid (∀ w',Below (w.alloc (.cells zav.cs.toArray 133)).heap.size (w.alloc (.cells zav.cs.toArray 133)) w'→∀ j,w'.cell? ⟨w.heap.size,j,none⟩=zav.cs[j]?):=fun w' hb j=>by
  have:w'.heap[w.heap.size]?=some (.cells zav.cs.toArray 133 (0,0)):=(hb.block _ (by simp)).trans (zah rfl);exact (zae (xs:=zav.cs) this j).1
 have hz:w.heap.size≤(w.alloc (.cells zav.cs.toArray 133)).heap.size:=BW.o.size
 obtain ⟨W,hW⟩:∃ W,W=w.alloc (.cells zav.cs.toArray 133):=⟨_,rfl⟩
 rw[← hW] at BW CA hz;rw[show zav.v=.agg zav.cs.toArray from rfl];clear h hcZ;go_enter Tryz.func296,Tryz.ntmps296;go_wp2;rw[← hW];clear hW
 go_loopw [5,8] (fun _ i wr=>∃ k:Nat,k≤ws.length∧i=.int .i64 k∧Hid (Below W.heap.size W wr∧∀ j,j < k→zfr zav.ns (ws.getD j zav).ns=false)) (fun _ i _=>ws.length - (intOf i).toNat)
 case atStart=>exact ⟨0,by omega,rfl,Below.refl _ _,fun j a=>absurd a (by omega)⟩
 case round =>
  obtain ⟨k,hk,rfl,H⟩:=hrel;have B0:=zaa (zab BW.o H.o.1 hz)
  by_cases hlt:k < ws.length
  ·obtain ⟨b,o,rfl,hbl,hcell⟩:=HZ.o (by omega);have GD:=zaa (show ws.getD k zav=ws[k] by rw[List.getD_eq_getElem?_getD,List.getElem?_eq_getElem hlt];rfl);obtain ⟨p0,p1,p2,p3,p4,p5,p6,p7,p8,p9,p10⟩:=Ino.all (CA.o wr H.o.1);obtain ⟨a0,a1,a2,a3,a4,a5,a6,a7,a8,a9,a10⟩:=hcell k hlt;have d0:=(B0.o.cell (p:=⟨b,o+k*11,none⟩) hbl).trans a0;have d1:=(B0.o.cell (p:=⟨b,o+k*11+1,none⟩) hbl).trans a1;have d2:=(B0.o.cell (p:=⟨b,o+k*11+2,none⟩) hbl).trans a2;have d3:=(B0.o.cell (p:=⟨b,o+k*11+3,none⟩) hbl).trans a3;have d4:=(B0.o.cell (p:=⟨b,o+k*11+4,none⟩) hbl).trans a4;have d5:=(B0.o.cell (p:=⟨b,o+k*11+5,none⟩) hbl).trans a5;have d6:=(B0.o.cell (p:=⟨b,o+k*11+6,none⟩) hbl).trans a6;have d7:=(B0.o.cell (p:=⟨b,o+k*11+7,none⟩) hbl).trans a7;have d8:=(B0.o.cell (p:=⟨b,o+k*11+8,none⟩) hbl).trans a8;have d9:=(B0.o.cell (p:=⟨b,o+k*11+9,none⟩) hbl).trans a9;have d10:=(B0.o.cell (p:=⟨b,o+k*11+10,none⟩) hbl).trans a10
   have k0:(0:Int)≤(k:Int):=by omega
   have k1:(k:Int) < (ws.length:Int):=by omega
   have H1:=zaa H.o.1
   have HN:Hid (zfr zav.ns ws[k].ns=false→∀ j,j < k+1→zfr zav.ns (ws.getD j zav).ns=false):=fun q j a=>by
    by_cases e:j=k
    ·subst e;rw[GD.o];exact q
    ·exact H.o.2 j (by omega)
   have HY:Hid (zfr zav.ns ws[k].ns=true→zas (fun i=>zfr zav.ns (ws.getD i zav).ns) ws.length=(k:Int)):=fun q=>zfl hlt (fun j hj=>H.o.2 j hj) (by show zfr zav.ns (ws.getD k zav).ns=true;rw[GD.o];exact q)
   clear a0 a1 a2 a3 a4 a5 a6 a7 a8 a9 a10 hcell H GD;generalize ws[k]=x at *;unfold zav at p0 p1 p2 p3 p4 p5 p6 p7 p8 p9 p10;simp only at p0 p1 p2 p3 p4 p5 p6 p7 p8 p9 p10
   cases q:zfr zav.ns x.ns with
   | true =>
    have q':zfr [0,0,0,0,0,0,0,0,0,0,0] [x.kind,x.size,x.links,x.m0,x.m1,x.m2,x.m3,x.m4,x.m5,x.m6,x.m7]=true:=q;have E:=zaa (HY.o q);clear q HN HY;go_wp2
    go_quiet (fail)
    go_wp2;go_ret;exact ⟨zcd E.o.symm,below_drewN B0.o _⟩
   | false =>
    have q':zfr [0,0,0,0,0,0,0,0,0,0,0] [x.kind,x.size,x.links,x.m0,x.m1,x.m2,x.m3,x.m4,x.m5,x.m6,x.m7]=false:=q;have E:=zaa (HN.o q);clear q HN HY;go_wp2
    go_quiet (fail)
    go_wp2
    go_roundw
    case rel=>exact ⟨k+1,by omega,by go_num,below_drewN H1.o _,E.o⟩
    case measure=>simp[intOf];omega
  ·have E:=zaa (zdh (p:=fun i=>zfr zav.ns (ws.getD i zav).ns) (n:=ws.length) (fun j hj=>H.o.2 j (by omega)));clear H;go_wp2;go_ret;exact ⟨zcd E.o.symm,B0.o⟩
theorem yajj {ws:List Ino} {ps:List Den} (h:zay ws ps=true):zas (fun i=>zfr zav.ns (ws.getD i zav).ns) ws.length=zas (fun i=>decide (1≤i) && zai ws (i:Int) == 0) ws.length:=by
 obtain ⟨l1,_,k2,o⟩:=zec h;have o:=of_decide_eq_true o;apply zzn;intro j hj
 have GD:ws.getD j zav=ws[j]:=by rw[List.getD_eq_getElem?_getD,List.getElem?_eq_getElem hj];rfl
 show zfr zav.ns (ws.getD j zav).ns=(decide (1≤j) && zai ws (j:Int) == 0)
 rw[GD,zba hj];have ib:=o j hj
 by_cases q:ws[j].kind=0
 ·have hz:ws[j].ns=zav.ns:=by
   unfold zes at ib;simp only[Bool.and_eq_true,decide_eq_true_eq] at ib;have kb:=ib.2.2.2.2;unfold zjq at kb;rw[if_pos q] at kb;obtain ⟨f1,f2,f3⟩:=of_decide_eq_true kb;simp only[Ino.map,List.cons.injEq,and_true] at f3;simp[Ino.ns,zav,q,f1,f2,f3]
  rw[zzr hz.symm,q]
  have:1≤j:=by
   rcases Nat.eq_zero_or_pos j with e | e
   ·exfalso;subst e;have:=zba hj;rw[show ((0:Nat):Int)=0 from rfl,k2] at this;omega
   ·exact e
  rw[decide_eq_true this];rfl
 ·rw[show (ws[j].kind == 0)=false by rw[beq_eq_false_iff_ne];exact q,Bool.and_false];exact zzu (fun e=>q (by have:=congrArg List.head? e;simp[Ino.ns,zav] at this;exact this.symm))
theorem zly (v:Value) (ws:List Ino) (ps:List Den) (w:World) (h:RdIm w v ws ps) (hw:ws.length≤1048576) (hp:ps.length≤1048576) (hT:TS w) (hE:ED w) (hF:FD w) (hr:∀ k (h:k < ws.length),ws[k].R) (hs:∀ k (h:k < ps.length),ps[k].name.size≤maxLen) :
  Calls Tryz.prog 252 #[v] w fun e w'=>e=.returned (.tuple #[.int .i64 (fpV (zay ws ps) (zas (fun i=>decide (1≤i) && zai ws (i:Int) == 0) ws.length)),.int .i64 (fpC (zay ws ps) (zas (fun i=>decide (1≤i) && zai ws (i:Int) == 0) ws.length))])∧Below w.heap.size w w':=by
 have LI:=zaa (fun w1 (hb:Below w.heap.size w w1)=>zbp v ws ps w1 (h.below hb) hw hp (hT.below hb) (hE.below hb) (hF.below hb) hr hs);have FS:=zaa (@yajj ws ps);obtain ⟨vW,vP,rfl,h1,h2⟩:=h;have RW:=zaa h1;obtain ⟨aW,cW,rfl,_,_⟩:=h1.shape;obtain ⟨aP,cP,rfl,_,_⟩:=h2.shape;have LX:=zaa (fun w1 (hb:Below w.heap.size w w1)=>zqx (.slice aW ws.length cW) ws w1 (Rd.below RW.o hb) hw);have fb:=zdf (fun i=>decide (1≤i) && zai ws (i:Int) == 0) ws.length;clear h1 h2 hr hs hT hE hF
 have CA:Hid (∀ w',Below (w.alloc (.cells #[.slice aW ws.length cW,.slice aP ps.length cP] 79)).heap.size (w.alloc (.cells #[.slice aW ws.length cW,.slice aP ps.length cP] 79)) w'→w'.cell? ⟨w.heap.size,0,none⟩=some (.slice aW ws.length cW)∧w'.cell? ⟨w.heap.size,1,none⟩=some (.slice aP ps.length cP)):=fun w' hb=>by
  have:w'.heap[w.heap.size]?=some (.cells #[.slice aW ws.length cW,.slice aP ps.length cP] 79 (0,0)):=(hb.block _ (by simp)).trans (zah rfl);exact ⟨(zac this).1,(zac this).2.1⟩
 have BW:Hid (Below w.heap.size w (w.alloc (.cells #[.slice aW ws.length cW,.slice aP ps.length cP] 79))):=(Below.refl _ _).alloc (Nat.le_refl _) _;obtain ⟨x0,x1⟩:=CA.o _ (Below.refl _ _)
 cases c1:zay ws ps with
 | false =>
  rw[c1] at LI;generalize zas (fun i=>decide (1≤i) && zai ws (i:Int) == 0) ws.length=r;rw[show fpV false r=0 from rfl,show fpC false r=1 from rfl];clear c1;go_enter Tryz.func252,Tryz.ntmps252;go_wp2_with fail;refine (LI.o _ BW.o).mono ?_;rintro e w1 ⟨rfl,hb1⟩;have B1:=zaa (zab BW.o hb1 BW.o.size);clear hb1 x0 x1;go_wp2;go_ret2;exact ⟨rfl,B1.o⟩
 | true =>
  rw[c1] at LI;rw[FS.o c1] at LX;clear c1 FS;generalize zas (fun i=>decide (1≤i) && zai ws (i:Int) == 0) ws.length=r at *
  by_cases q:r < 0
  ·rw[show fpV true r=0 from if_pos q,show fpC true r=7 from if_pos q];go_enter Tryz.func252,Tryz.ntmps252;go_wp2_with fail;refine (LI.o _ BW.o).mono ?_;rintro e w1 ⟨rfl,hb1⟩;have B1:=zaa (zab BW.o hb1 BW.o.size);clear x0 x1;obtain ⟨x0,x1⟩:=CA.o _ hb1;clear hb1;go_wp2_with fail;refine (LX.o _ B1.o).mono ?_;rintro e w2 ⟨rfl,hb2⟩;have B2:=zaa (zab B1.o hb2 B1.o.size);clear hb2 x0 x1;go_wp2;go_ret2;exact ⟨rfl,B2.o⟩
  ·rw[show fpV true r=r from if_neg q,show fpC true r=0 from if_neg q];go_enter Tryz.func252,Tryz.ntmps252;go_wp2_with fail;refine (LI.o _ BW.o).mono ?_;rintro e w1 ⟨rfl,hb1⟩;have B1:=zaa (zab BW.o hb1 BW.o.size);clear x0 x1;obtain ⟨x0,x1⟩:=CA.o _ hb1;clear hb1;go_wp2_with fail;refine (LX.o _ B1.o).mono ?_;rintro e w2 ⟨rfl,hb2⟩;have B2:=zaa (zab B1.o hb2 B1.o.size);clear hb2 x0 x1;go_wp2;go_ret2;exact ⟨rfl,B2.o⟩
theorem zqr (v:Value) (ws:List Ino) (ps:List Den) (a b:Int) (w:World) (h:RdIm w v ws ps) (hn:ps.length≤1048576) :
  Calls Tryz.prog 230 #[v,.int .i64 a,.int .i64 b] w fun e w'=>e=.returned (.bool (zjm ps 17 a b))∧Below w.heap.size w w':=by
 have HR:=zaa h;obtain ⟨vW,vP,rfl,h1,h2⟩:=h;obtain ⟨aW,cW,rfl,_⟩:=h1.shape;obtain ⟨aP,cP,rfl,_,hcP⟩:=h2.shape;clear h1 h2 hcP
 obtain ⟨W,hW⟩:∃ W,W=w.alloc (.cells #[.slice aW ws.length cW,.slice aP ps.length cP] 79):=⟨_,rfl⟩
 have CA:Hid (∀ w',Below W.heap.size W w'→w'.cell? ⟨w.heap.size,0,none⟩=some (.slice aW ws.length cW)∧w'.cell? ⟨w.heap.size,1,none⟩=some (.slice aP ps.length cP)):=fun w' hb=>by
  have:w'.heap[w.heap.size]?=some (.cells #[.slice aW ws.length cW,.slice aP ps.length cP] 79 (0,0)):=(hb.block _ (by rw[hW];simp)).trans (by rw[hW];exact zah rfl);exact ⟨(zac this).1,(zac this).2.1⟩
 have BW:Hid (Below w.heap.size w W):=by rw[hW];exact (Below.refl _ _).alloc (Nat.le_refl _) _
 have hz:w.heap.size≤W.heap.size:=BW.o.size;have LU:=zaa (fun d w1 h=>zun (.agg #[.slice aW ws.length cW,.slice aP ps.length cP]) ws ps d w1 h hn);go_enter Tryz.func230,Tryz.ntmps230;go_wp2;rw[← hW];clear hW
 go_loopw [1,7] (fun d i wr=>∃ (k:Nat) (z:Int),k≤17∧i=.int .i64 k∧d=.int .i64 z∧Hid (Below W.heap.size W wr∧zjm ps 17 a b=zjm ps (17 - k) z b)) (fun _ i _=>17 - (intOf i).toNat)
 case atStart=>exact ⟨0,a,by omega,rfl,rfl,Below.refl _ _,rfl⟩
 case round =>
  obtain ⟨k,z,hk,rfl,rfl,J⟩:=hrel;obtain ⟨x0,x1⟩:=CA.o wr J.o.1;have B:=zaa (zab BW.o J.o.1 hz)
  by_cases hlt:k < 17
  ·have ES:=zaa (show zjm ps (17 - k) z b=if z < 0 then false else if z=b then true else zjm ps (17 - (k+1)) (upD ps z) b by
    rw[show 17 - k=(17 - (k+1))+1 by omega];rfl)
   have k16:(k:Int)≤16:=by omega
   by_cases q:z < 0
   ·have E:=zaa (show zjm ps 17 a b=false by rw[J.o.2,ES.o,if_pos q])
    have q1:¬ z≥0:=by omega
    clear ES J;go_wp2;go_ret;exact ⟨zaf E.o.symm,B.o⟩
   ·have q1:z≥0:=by omega
    by_cases r:z=b
    ·subst r;have E:=zaa (show zjm ps 17 a z=true by rw[J.o.2,ES.o,if_neg q,if_pos rfl]);clear ES J;go_wp2;go_ret;exact ⟨zaf E.o.symm,B.o⟩
    ·have r1:(z == b)=false:=beq_eq_false_iff_ne.2 r;have R:=zaa (HR.o.below B.o);have E:=zaa (show zjm ps 17 a b=zjm ps (17 - (k+1)) (upD ps z) b by rw[J.o.2,ES.o,if_neg q,if_neg r]);have J1:=zaa J.o.1;clear ES J q r;go_wp2_with fail;refine (LU.o _ _ R.o).mono ?_;rintro e w1 ⟨rfl,hb1⟩;have B1:=zaa (zab J1.o hb1 J1.o.size);clear hb1;go_wp2
     go_roundw
     case rel=>exact ⟨k+1,_,by omega,by go_num,rfl,B1.o,E.o⟩
     case measure=>simp[intOf];omega
  ·obtain rfl:k=17:=by omega
   have E:=zaa (show zjm ps 17 a b=false by rw[J.o.2];rfl);clear J;go_wp2;go_ret;exact ⟨zaf E.o.symm,B.o⟩
theorem yasf {ws:List Ino} {ps:List Den} {a b:Int} (h:zay ws ps=false):beC ws ps a b=1∧beV ws ps a b=false:=by
 have e:beC ws ps a b=1:=by unfold beC;rw[h];rfl
 exact ⟨e,by unfold beV;rw[e];rfl⟩
theorem yabl {ws:List Ino} {ps:List Den} {a b:Int} (h:zay ws ps=true) (q:¬ ((0≤a∧a≤15)∧(0≤b∧b≤15))):beC ws ps a b=4∧beV ws ps a b=false:=by
 have e:beC ws ps a b=4:=by unfold beC;rw[if_pos h,if_neg q]
 exact ⟨e,by unfold beV;rw[e];rfl⟩
theorem yaax {ws:List Ino} {ps:List Den} {a b:Int} (h:zay ws ps=true) (q:(0≤a∧a≤15)∧(0≤b∧b≤15)) (r:¬ (zai ws a=2∧zai ws b=2)):beC ws ps a b=10∧beV ws ps a b=false:=by
 have e:beC ws ps a b=10:=by unfold beC;rw[if_pos h,if_pos q,if_neg r]
 exact ⟨e,by unfold beV;rw[e];rfl⟩
theorem yaqz {ws:List Ino} {ps:List Den} {a b:Int} (h:zay ws ps=true) (q:(0≤a∧a≤15)∧(0≤b∧b≤15)) (r:zai ws a=2∧zai ws b=2):beC ws ps a b=0∧beV ws ps a b=zjm ps 17 a b:=by
 have e:beC ws ps a b=0:=by unfold beC;rw[if_pos h,if_pos q,if_pos r]
 exact ⟨e,by unfold beV;rw[e];rfl⟩
end Go.Proofs.YtehnphoeplmpdaaGreatDoor
