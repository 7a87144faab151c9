import Derived.Test.YtogcbbkhnpmgeaaGreatDoorZAP
set_option maxRecDepth 100000
set_option maxHeartbeats 4000000
namespace Go.Proofs.YtogcbbkhnpmgeaaGreatDoor
open Go.RowKit
def fpV(b:Bool)(r:Int):Int:=if b=true then zhh r else 0
def fpC(b:Bool)(r:Int):Int:=if b=true then zhf r else 1
theorem zib(v:Value)(ws:List Ino)(ps:List Den)(t:Int)(n:Nat)(w:World)(h:RdIm w v ws ps)(hl:ws.length<=4096)(hr:∀ k (h:k<ws.length),∀ z∈ws[k].map,0<=z/\z<=1048576)(hn:n<=1000) :
  zC 141 #[v,.I t,.I (n:Int)] w fun e w'=>e=.returned (.I (zba (fun i=>!zfa (zay (zam ws) t) (i:Int)) n))/\zB w w':=by
 have HRD:=zaa h;have LU:=zaa (fun w1 h=>zqt v ws ps t w1 h hl hr)
 have UL:(zay (zam ws) t).length<=1048576:=by have:=zhu (zam ws) t;have:=zfz ws;omega
 obtain⟨vW,vP,rfl,h1,h2⟩:=h;obtain⟨aW,cW,rfl,_,hcW⟩:=h1.shape;obtain⟨aP,cP,rfl,_,_⟩:=h2.shape;clear h1 h2 hcW hr
 have CA:Hid (∀ w',Below (w.alloc (.cells #[.slice aW ws.length cW,.slice aP ps.length cP] 51)).heap.size (w.alloc (.cells #[.slice aW ws.length cW,.slice aP ps.length cP] 51)) w'->w'.cell? ⟨w.heap.size,0,none⟩=some (.slice aW ws.length cW)/\w'.cell? ⟨w.heap.size,1,none⟩=some (.slice aP ps.length cP)):=fun w' hb=>by
  have:w'.heap[w.heap.size]?=some (.cells #[.slice aW ws.length cW,.slice aP ps.length cP] 51 (0,0)):=(hb.block _ (by simp)).trans (zaf rfl);exact⟨(zac this).1,(zac this).2.1⟩
 have BW:Hid (zB w (w.alloc (.cells #[.slice aW ws.length cW,.slice aP ps.length cP] 51))):=zR.alloc zL _;obtain⟨x0,x1⟩:=CA.o _ zR;generalize zay (zam ws) t=zs at *;go_enter Tryz.func141,Tryz.ntmps141;go_wp2_with fail;refine(LU.o _ (HRD.o.below BW.o)).mono ?_;rintro e w1 ⟨v1,rfl,hr1,hb1⟩;obtain⟨-,aL,cL,hvL,-⟩:=hr1.rd;subst hvL;have R1:Hid (RdI w1 (.slice aL zs.length cL) zs):=hr1.rd;have B1:=zaa (zab BW.o hb1 BW.o.size);clear hr1 hb1 x0 x1 CA;go_wp2
 go_loopw [8] (fun i wr=>∃ k:Nat,k<=n/\i=.I k/\wr=w1/\Hid (∀ j,j<k->(!zfa zs (j:Int))=false)) (fun i _=>n-(intOf i).toNat)
 case atStart=>exact⟨0,by omega,rfl,rfl,fun j a=>absurd a (by omega)⟩
 case round =>
  obtain⟨k,hk,rfl,rfl,H⟩:=hrel
  have k0:(0:Int)<=(k:Int):=by omega
  by_cases hlt:k<n
  ·have k1:(k:Int)<(n:Int):=by omega
   have LH:=zaa (znw (.slice aL zs.length cL) zs (k:Int) _ R1.o UL)
   cases q:zfa zs (k:Int) with
   | true =>
    have H':Hid (∀ j,j<k+1->(!zfa zs (j:Int))=false):=fun j a=>by
     by_cases e:j=k
     ·subst e;rw[q];rfl
     ·exact H.o j (by omega)
    rw[q]at LH;clear q H;go_wp2_with (go_at_call 159;refine LH.o.mono ?_;rintro e w' ⟨rfl,rfl⟩)
    go_roundw
    case rel=>exact⟨k+1,by omega,by go_num,trivial,H'⟩
    case measure=>simp[intOf];omega
   | false =>
    have E:=zaa (zgt (p:=fun i=>!zfa zs (i:Int)) hlt H.o (by rw[q];rfl));rw[q]at LH;clear q H;go_wp2_with (go_at_call 159;refine LH.o.mono ?_;rintro e w' ⟨rfl,rfl⟩);go_ret;exact⟨zcx E.o.symm,B1.o⟩
  ·have E:=zaa (zek (p:=fun i=>!zfa zs (i:Int)) (n:=n) (fun j hj=>H.o j (by omega)));clear H;go_wp2;go_ret;exact⟨zcx E.o.symm,B1.o⟩
theorem zjd(v:Value)(ws:List Ino)(ps:List Den)(t:Nat)(n:Nat)(w:World)(h:RdIm w v ws ps)(hw:ws.length<=1048576)(hp:ps.length<=1048576)(hT:TS w)(hE:ED w)(hF:FD w)(hr:∀ k (h:k<ws.length),ws[k].R)(hs:∀ k (h:k<ps.length),ps[k].name.size<=maxLen)(ht:(t=1/\n=24)\/(t=2/\n=32)) :
  zC 229 #[v,.I (t:Int)] w fun e w'=>e=.returned (.tuple #[.I (fpV (zbg ws ps) (zba (fun i=>!zfa (zay (zam ws) (t:Int)) (i:Int)) n)),.I (fpC (zbg ws ps) (zba (fun i=>!zfa (zay (zam ws) (t:Int)) (i:Int)) n))])/\zB w w':=by
 have LU:=zaa (fun w1 (hb:zB w w1)=>zsy v ws ps (t:Int) w1 (h.below hb) hw hp (hT.below hb) (hE.below hb) (hF.below hb) hr hs);have T:=zaa hT;obtain⟨vW,vP,rfl,h1,h2⟩:=h;obtain⟨aW,cW,rfl,_,hcW⟩:=h1.shape;obtain⟨aP,cP,rfl,_,_⟩:=h2.shape;clear h1 h2 hr hs hT hE hF hcW
 have CA:Hid (∀ w',Below (w.alloc (.cells #[.slice aW ws.length cW,.slice aP ps.length cP] 51)).heap.size (w.alloc (.cells #[.slice aW ws.length cW,.slice aP ps.length cP] 51)) w'->w'.cell? ⟨w.heap.size,0,none⟩=some (.slice aW ws.length cW)/\w'.cell? ⟨w.heap.size,1,none⟩=some (.slice aP ps.length cP)):=fun w' hb=>by
  have:w'.heap[w.heap.size]?=some (.cells #[.slice aW ws.length cW,.slice aP ps.length cP] 51 (0,0)):=(hb.block _ (by simp)).trans (zaf rfl);exact⟨(zac this).1,(zac this).2.1⟩
 have BW:Hid (zB w (w.alloc (.cells #[.slice aW ws.length cW,.slice aP ps.length cP] 51))):=zR.alloc zL _;obtain⟨x0,x1⟩:=CA.o _ zR
 have c2:(t:Int)=1\/(t:Int)=2:=by rcases ht with ⟨e,_⟩ | ⟨e,_⟩<;>rw[e]<;>decide
 cases c1:zbg ws ps with
 | false =>
  rw[c1]at LU
  have e1:=show ubC false (t:Int)=1 from rfl
  have e2:ubL false (zam ws) (t:Int)=[]:=if_neg (fun h=>by cases h.1);rw[e1,e2]at LU;generalize zba (fun i=>!zfa (zay (zam ws) (t:Int)) (i:Int)) n=r;rw[show fpV false r=0 from rfl,show fpC false r=1 from rfl];clear c1 e1 e2;go_enter Tryz.func229,Tryz.ntmps229;go_wp2_with fail;refine(LU.o _ BW.o).mono ?_;rintro e w1 ⟨v1,rfl,hr1,hb1⟩;obtain⟨-,aL,cL,hvL,-⟩:=hr1.rd;subst hvL;have B1:=zaa (zab BW.o hb1 BW.o.size);clear hr1 hb1 x0 x1;go_wp2;go_ret2;exact⟨rfl,B1.o⟩
 | true =>
 rw[c1]at LU
 have e1:ubC true (t:Int)=0:=by unfold ubC;rw[if_pos rfl,if_pos c2]
 have e2:ubL true (zam ws) (t:Int)=zay (zam ws) (t:Int):=if_pos ⟨rfl,c2⟩
 have UL:(zay (zam ws) (t:Int)).length<=1048576:=by have:=zhu (zam ws) (t:Int);have:=zfz ws;have:=(zfj c1).1;omega
 rw[e1,e2]at LU;generalize zay (zam ws) (t:Int)=zs at *
 have TC:Hid (∀ w',zB w w'->w'.cell? ⟨3,t,none⟩=some (.I (n:Int))):=fun w' hb=>by
  obtain⟨a0,a1,a2⟩:=TS.cells (T.o.below hb)
  rcases ht with ⟨rfl,rfl⟩ | ⟨rfl,rfl⟩
  ·exact a1
  ·exact a2
 have t0:(0:Int)<=(t:Int):=by rcases ht with ⟨e,_⟩ | ⟨e,_⟩<;>rw[e]<;>decide
 have t3:(t:Int)<3:=by rcases ht with ⟨e,_⟩ | ⟨e,_⟩<;>rw[e]<;>decide
 have n1:n<=32:=by rcases ht with ⟨_,e⟩ | ⟨_,e⟩<;>rw[e]<;>decide
 clear c1 c2 e1 e2 ht T;go_enter Tryz.func229,Tryz.ntmps229;go_wp2_with fail;refine(LU.o _ BW.o).mono ?_;rintro e w1 ⟨v1,rfl,hr1,hb1⟩;obtain⟨-,aL,cL,hvL,-⟩:=hr1.rd;subst hvL;have R1:Hid (RdI w1 (.slice aL zs.length cL) zs):=hr1.rd;have B1:=zaa (zab BW.o hb1 BW.o.size);have tc:=TC.o _ B1.o;clear hr1 hb1 x0 x1 CA;go_wp2
 go_loopw [8,21] (fun _ i wr=>∃ k:Nat,k<=n/\i=.I k/\wr=w1/\Hid (∀ j,j<k->(!zfa zs (j:Int))=false)) (fun _ i _=>n-(intOf i).toNat)
 case atStart=>exact⟨0,by omega,rfl,rfl,fun j a=>absurd a (by omega)⟩
 case round =>
  obtain⟨k,hk,rfl,rfl,H⟩:=hrel
  have k0:(0:Int)<=(k:Int):=by omega
  by_cases hlt:k<n
  ·have k1:(k:Int)<(n:Int):=by omega
   have LH:=zaa (zgc (.slice aL zs.length cL) zs (k:Int) _ R1.o UL)
   cases q:zfa zs (k:Int) with
   | true =>
    have H':Hid (∀ j,j<k+1->(!zfa zs (j:Int))=false):=fun j a=>by
     by_cases e:j=k
     ·subst e;rw[q];rfl
     ·exact H.o j (by omega)
    rw[q]at LH;clear q H;go_wp2_with (go_at_call 119;refine LH.o.mono ?_;rintro e w' ⟨rfl,rfl⟩)
    go_roundw
    case rel=>exact⟨k+1,by omega,by go_num,trivial,H'⟩
    case measure=>simp[intOf];omega
   | false =>
    have E:=zaa (zgt (p:=fun i=>!zfa zs (i:Int)) hlt H.o (by rw[q];rfl));have E1:=zaa (show fpV true (k:Int)=(k:Int) by unfold fpV zhh;rw[if_pos rfl,if_neg (by omega)]);have E2:=zaa (show fpC true (k:Int)=0 by unfold fpC zhf;rw[if_pos rfl,if_neg (by omega)]);rw[q]at LH;clear q H;go_wp2_with (go_at_call 119;refine LH.o.mono ?_;rintro e w' ⟨rfl,rfl⟩);go_ret2;exact⟨zcg (by rw[E.o,E1.o]) (by rw[E.o,E2.o]),B1.o⟩
  ·have E:=zaa (zek (p:=fun i=>!zfa zs (i:Int)) (n:=n) (fun j hj=>H.o j (by omega)));clear H;go_wp2;go_ret2;exact⟨zcg (by rw[E.o];rfl) (by rw[E.o];rfl),B1.o⟩
theorem zot(v:Value)(ws:List Ino)(ps:List Den)(w:World)(h:RdIm w v ws ps)(hw:ws.length<=1048576)(hp:ps.length<=1048576)(hT:TS w)(hE:ED w)(hF:FD w)(hr:∀ k (h:k<ws.length),ws[k].R)(hs:∀ k (h:k<ps.length),ps[k].name.size<=maxLen) :
  zC 179 #[v] w fun e w'=>e=.returned (.tuple #[.I (fpV (zbg ws ps) (zba (fun i=>!zfa (zay (zam ws) 1) (i:Int)) 24)),.I (fpC (zbg ws ps) (zba (fun i=>!zfa (zay (zam ws) 1) (i:Int)) 24))])/\zB w w':=by
 have LF:=zaa (fun w1 (hb:zB w w1)=>zjd v ws ps 1 24 w1 (h.below hb) hw hp (hT.below hb) (hE.below hb) (hF.below hb) hr hs (by omega));rw[show((1:Nat):Int)=1 from rfl]at LF;obtain⟨vW,vP,rfl,h1,h2⟩:=h;obtain⟨aW,cW,rfl,_,hcW⟩:=h1.shape;obtain⟨aP,cP,rfl,_,_⟩:=h2.shape;clear h1 h2 hr hs hcW hT hE hF
 have CA:Hid (∀ w',Below (w.alloc (.cells #[.slice aW ws.length cW,.slice aP ps.length cP] 51)).heap.size (w.alloc (.cells #[.slice aW ws.length cW,.slice aP ps.length cP] 51)) w'->w'.cell? ⟨w.heap.size,0,none⟩=some (.slice aW ws.length cW)/\w'.cell? ⟨w.heap.size,1,none⟩=some (.slice aP ps.length cP)):=fun w' hb=>by
  have:w'.heap[w.heap.size]?=some (.cells #[.slice aW ws.length cW,.slice aP ps.length cP] 51 (0,0)):=(hb.block _ (by simp)).trans (zaf rfl);exact⟨(zac this).1,(zac this).2.1⟩
 have BW:Hid (zB w (w.alloc (.cells #[.slice aW ws.length cW,.slice aP ps.length cP] 51))):=zR.alloc zL _;obtain⟨x0,x1⟩:=CA.o _ zR;generalize fpV (zbg ws ps) (zba (fun i=>!zfa (zay (zam ws) 1) (i:Int)) 24)=r1 at *;generalize fpC (zbg ws ps) (zba (fun i=>!zfa (zay (zam ws) 1) (i:Int)) 24)=r2 at *;go_enter Tryz.func179,Tryz.ntmps179;go_wp2_with fail;refine(LF.o _ BW.o).mono ?_;rintro e w1 ⟨rfl,hb1⟩;have B1:=zaa (zab BW.o hb1 BW.o.size);clear hb1 x0 x1;go_wp2;go_ret2;exact⟨rfl,B1.o⟩
theorem znc(v:Value)(ws:List Ino)(ps:List Den)(w:World)(h:RdIm w v ws ps)(hw:ws.length<=1048576)(hp:ps.length<=1048576)(hT:TS w)(hE:ED w)(hF:FD w)(hr:∀ k (h:k<ws.length),ws[k].R)(hs:∀ k (h:k<ps.length),ps[k].name.size<=maxLen) :
  zC 180 #[v] w fun e w'=>e=.returned (.tuple #[.I (fpV (zbg ws ps) (zba (fun i=>!zfa (zay (zam ws) 2) (i:Int)) 32)),.I (fpC (zbg ws ps) (zba (fun i=>!zfa (zay (zam ws) 2) (i:Int)) 32))])/\zB w w':=by
 have LF:=zaa (fun w1 (hb:zB w w1)=>zjd v ws ps 2 32 w1 (h.below hb) hw hp (hT.below hb) (hE.below hb) (hF.below hb) hr hs (by omega));rw[show((2:Nat):Int)=2 from rfl]at LF;obtain⟨vW,vP,rfl,h1,h2⟩:=h;obtain⟨aW,cW,rfl,_,hcW⟩:=h1.shape;obtain⟨aP,cP,rfl,_,_⟩:=h2.shape;clear h1 h2 hr hs hcW hT hE hF
 have CA:Hid (∀ w',Below (w.alloc (.cells #[.slice aW ws.length cW,.slice aP ps.length cP] 51)).heap.size (w.alloc (.cells #[.slice aW ws.length cW,.slice aP ps.length cP] 51)) w'->w'.cell? ⟨w.heap.size,0,none⟩=some (.slice aW ws.length cW)/\w'.cell? ⟨w.heap.size,1,none⟩=some (.slice aP ps.length cP)):=fun w' hb=>by
  have:w'.heap[w.heap.size]?=some (.cells #[.slice aW ws.length cW,.slice aP ps.length cP] 51 (0,0)):=(hb.block _ (by simp)).trans (zaf rfl);exact⟨(zac this).1,(zac this).2.1⟩
 have BW:Hid (zB w (w.alloc (.cells #[.slice aW ws.length cW,.slice aP ps.length cP] 51))):=zR.alloc zL _;obtain⟨x0,x1⟩:=CA.o _ zR;generalize fpV (zbg ws ps) (zba (fun i=>!zfa (zay (zam ws) 2) (i:Int)) 32)=r1 at *;generalize fpC (zbg ws ps) (zba (fun i=>!zfa (zay (zam ws) 2) (i:Int)) 32)=r2 at *;go_enter Tryz.func180,Tryz.ntmps180;go_wp2_with fail;refine(LF.o _ BW.o).mono ?_;rintro e w1 ⟨rfl,hb1⟩;have B1:=zaa (zab BW.o hb1 BW.o.size);clear hb1 x0 x1;go_wp2;go_ret2;exact⟨rfl,B1.o⟩
theorem zou(v:Value)(ws:List Ino)(ps:List Den)(w:World)(h:RdIm w v ws ps)(hl:ws.length<=4096) :
  zC 200 #[v] w fun e w'=>e=.returned (.I (zba (fun i=>decide (1<=i)&&zaj ws (i:Int) == 0) ws.length))/\zB w w':=by
 obtain⟨vW,vP,rfl,h1,h2⟩:=h;obtain⟨aW,cW,rfl,_,hcW⟩:=h1.shape;obtain⟨aP,cP,rfl,_,_⟩:=h2.shape;have HW:=zaa hcW;clear h1 h2 hcW
 have CA:Hid (∀ w',Below (w.alloc (.cells #[.slice aW ws.length cW,.slice aP ps.length cP] 51)).heap.size (w.alloc (.cells #[.slice aW ws.length cW,.slice aP ps.length cP] 51)) w'->w'.cell? ⟨w.heap.size,0,none⟩=some (.slice aW ws.length cW)/\w'.cell? ⟨w.heap.size,1,none⟩=some (.slice aP ps.length cP)):=fun w' hb=>by
  have:w'.heap[w.heap.size]?=some (.cells #[.slice aW ws.length cW,.slice aP ps.length cP] 51 (0,0)):=(hb.block _ (by simp)).trans (zaf rfl);exact⟨(zac this).1,(zac this).2.1⟩
 have BW:Hid (zB w (w.alloc (.cells #[.slice aW ws.length cW,.slice aP ps.length cP] 51))):=zR.alloc zL _;obtain⟨x0,x1⟩:=CA.o _ zR;clear x0 x1
 obtain⟨W,hW⟩:=zE (w.alloc (.cells #[.slice aW ws.length cW,.slice aP ps.length cP] 51))
 rw[<- hW]at CA BW;obtain⟨y0,y1⟩:=CA.o _ zR;go_enter Tryz.func200,Tryz.ntmps200;go_wp2;rw[<- hW];clear hW
 go_loopw [3] (fun i wr=>∃ k:Nat,(1<=k/\(k<=ws.length\/k=1))/\i=.I k/\wr=W/\Hid (∀ j,j<k->(decide (1<=j)&&zaj ws (j:Int) == 0)=false)) (fun i _=>ws.length+1-(intOf i).toNat)
 case atStart=>exact⟨1,by omega,rfl,rfl,fun j a=>by rw[decide_eq_false (by omega)];rfl⟩
 case round =>
  obtain⟨k,hk,rfl,rfl,H⟩:=hrel
  have k0:(0:Int)<=(k:Int):=by omega
  by_cases hlt:k<ws.length
  ·obtain⟨b,o,rfl,hbl,hcell⟩:=HW.o (by omega);have d0:=(BW.o.cell (p:=⟨b,o+k*11,none⟩) hbl).trans (hcell k hlt).1;rw[<- zbk hlt]at d0
   have k1:(k:Int)<(ws.length:Int):=by omega
   have P:=zaa (show(decide (1<=k)&&zaj ws (k:Int) == 0)=(zaj ws (k:Int) == 0) by rw[decide_eq_true hk.1];rfl);clear hcell
   cases q:(zaj ws (k:Int) == 0) with
   | true =>
    have E:=zaa (zgt (p:=fun i=>decide (1<=i)&&zaj ws (i:Int) == 0) hlt H.o (by show(decide (1<=k)&&zaj ws (k:Int) == 0)=true;rw[P.o,q]));clear H P;generalize zaj ws (k:Int)=z at d0 q;go_wp2;go_ret;exact⟨zcx E.o.symm,BW.o⟩
   | false =>
    have H':Hid (∀ j,j<k+1->(decide (1<=j)&&zaj ws (j:Int) == 0)=false):=fun j a=>by
     by_cases e:j=k
     ·subst e;rw[P.o,q]
     ·exact H.o j (by omega)
    clear H P;generalize zaj ws (k:Int)=z at d0 q;go_wp2
    go_roundw
    case rel=>exact⟨k+1,by omega,by go_num,trivial,H'⟩
    case measure=>simp[intOf];omega
  ·have E:=zaa (zek (p:=fun i=>decide (1<=i)&&zaj ws (i:Int) == 0) (n:=ws.length) (fun j hj=>H.o j (by omega)))
   have k2:¬ (k:Int)<(ws.length:Int):=by omega
   clear H;go_wp2;go_ret;exact⟨zcx E.o.symm,BW.o⟩
def zbb:Ino:=⟨0,0,0,0,0,0,0,0,0,0,0⟩
theorem ztt(v:Value)(ws:List Ino)(w:World)(h:RdN w v ws)(hn:ws.length<=1048576) :
  zC 232 #[v,zbb.v] w fun e w'=>e=.returned (.I (zba (fun i=>zhb zbb.ns (ws.getD i zbb).ns) ws.length))/\zB w w':=by
 obtain⟨aZ,cZ,rfl,_,hcZ⟩:=h.shape;have HZ:=zaa hcZ;have BW:=zaa ((Below.refl w.heap.size w).alloc zL (.cells zbb.cs.toArray 87))
 have CA:Hid (∀ w',Below (w.alloc (.cells zbb.cs.toArray 87)).heap.size (w.alloc (.cells zbb.cs.toArray 87)) w'->∀ j,w'.cell? ⟨w.heap.size,j,none⟩=zbb.cs[j]?):=fun w' hb j=>by
  have:w'.heap[w.heap.size]?=some (.cells zbb.cs.toArray 87 (0,0)):=(hb.block _ (by simp)).trans (zaf rfl);exact(zag (xs:=zbb.cs) this j).1
 have hz:w.heap.size<=(w.alloc (.cells zbb.cs.toArray 87)).heap.size:=BW.o.size
 obtain⟨W,hW⟩:=zE (w.alloc (.cells zbb.cs.toArray 87))
 rw[<- hW]at BW CA hz;rw[show zbb.v=.agg zbb.cs.toArray from rfl];clear h hcZ;go_enter Tryz.func232,Tryz.ntmps232;go_wp2;rw[<- hW];clear hW
 go_loopw [5,8] (fun _ i wr=>∃ k:Nat,k<=ws.length/\i=.I k/\Hid (zB W wr/\∀ j,j<k->zhb zbb.ns (ws.getD j zbb).ns=false)) (fun _ i _=>ws.length-(intOf i).toNat)
 case atStart=>exact⟨0,by omega,rfl,zR,fun j a=>absurd a (by omega)⟩
 case round =>
  obtain⟨k,hk,rfl,H⟩:=hrel;have B0:=zaa (zab BW.o H.o.1 hz)
  by_cases hlt:k<ws.length
  ·obtain⟨b,o,rfl,hbl,hcell⟩:=HZ.o (by omega);have GD:=zaa (show ws.getD k zbb=ws[k] by rw[List.getD_eq_getElem?_getD,List.getElem?_eq_getElem hlt];rfl);obtain⟨p0,p1,p2,p3,p4,p5,p6,p7,p8,p9,p10⟩:=Ino.all (CA.o wr H.o.1);obtain⟨a0,a1,a2,a3,a4,a5,a6,a7,a8,a9,a10⟩:=hcell k hlt;have d0:=(B0.o.cell (p:=⟨b,o+k*11,none⟩) hbl).trans a0;have d1:=(B0.o.cell (p:=⟨b,o+k*11+1,none⟩) hbl).trans a1;have d2:=(B0.o.cell (p:=⟨b,o+k*11+2,none⟩) hbl).trans a2;have d3:=(B0.o.cell (p:=⟨b,o+k*11+3,none⟩) hbl).trans a3;have d4:=(B0.o.cell (p:=⟨b,o+k*11+4,none⟩) hbl).trans a4;have d5:=(B0.o.cell (p:=⟨b,o+k*11+5,none⟩) hbl).trans a5;have d6:=(B0.o.cell (p:=⟨b,o+k*11+6,none⟩) hbl).trans a6;have d7:=(B0.o.cell (p:=⟨b,o+k*11+7,none⟩) hbl).trans a7;have d8:=(B0.o.cell (p:=⟨b,o+k*11+8,none⟩) hbl).trans a8;have d9:=(B0.o.cell (p:=⟨b,o+k*11+9,none⟩) hbl).trans a9;have d10:=(B0.o.cell (p:=⟨b,o+k*11+10,none⟩) hbl).trans a10
   have k0:(0:Int)<=(k:Int):=by omega
   have k1:(k:Int)<(ws.length:Int):=by omega
   have H1:=zaa H.o.1
   have HN:Hid (zhb zbb.ns ws[k].ns=false->∀ j,j<k+1->zhb zbb.ns (ws.getD j zbb).ns=false):=fun q j a=>by
    by_cases e:j=k
    ·subst e;rw[GD.o];exact q
    ·exact H.o.2 j (by omega)
   have HY:Hid (zhb zbb.ns ws[k].ns=true->zba (fun i=>zhb zbb.ns (ws.getD i zbb).ns) ws.length=(k:Int)):=fun q=>zgt hlt (fun j hj=>H.o.2 j hj) (by show zhb zbb.ns (ws.getD k zbb).ns=true;rw[GD.o];exact q)
   clear a0 a1 a2 a3 a4 a5 a6 a7 a8 a9 a10 hcell H GD;generalize ws[k]=x at *;unfold zbb at p0 p1 p2 p3 p4 p5 p6 p7 p8 p9 p10;simp only at p0 p1 p2 p3 p4 p5 p6 p7 p8 p9 p10
   cases q:zhb zbb.ns x.ns with
   | true =>
    have q':zhb [0,0,0,0,0,0,0,0,0,0,0] [x.kind,x.size,x.links,x.m0,x.m1,x.m2,x.m3,x.m4,x.m5,x.m6,x.m7]=true:=q;have E:=zaa (HY.o q);clear q HN HY;go_wp2
    go_quiet (fail)
    go_wp2;go_ret;exact⟨zcx E.o.symm,zdn B0.o _⟩
   | false =>
    have q':zhb [0,0,0,0,0,0,0,0,0,0,0] [x.kind,x.size,x.links,x.m0,x.m1,x.m2,x.m3,x.m4,x.m5,x.m6,x.m7]=false:=q;have E:=zaa (HN.o q);clear q HN HY;go_wp2
    go_quiet (fail)
    go_wp2
    go_roundw
    case rel=>exact⟨k+1,by omega,by go_num,zdn H1.o _,E.o⟩
    case measure=>simp[intOf];omega
  ·have E:=zaa (zek (p:=fun i=>zhb zbb.ns (ws.getD i zbb).ns) (n:=ws.length) (fun j hj=>H.o.2 j (by omega)));clear H;go_wp2;go_ret;exact⟨zcx E.o.symm,B0.o⟩
theorem yalo{ws:List Ino}{ps:List Den}(h:zbg ws ps=true):zba (fun i=>zhb zbb.ns (ws.getD i zbb).ns) ws.length=zba (fun i=>decide (1<=i)&&zaj ws (i:Int) == 0) ws.length:=by
 obtain⟨l1,_,k2,o⟩:=zfj h;have o:=of_decide_eq_true o;apply yacl;intro j hj
 have GD:ws.getD j zbb=ws[j]:=by rw[List.getD_eq_getElem?_getD,List.getElem?_eq_getElem hj];rfl
 show zhb zbb.ns (ws.getD j zbb).ns=(decide (1<=j)&&zaj ws (j:Int) == 0)
 rw[GD,zbk hj];have ib:=o j hj
 by_cases q:ws[j].kind=0
 ·have hz:ws[j].ns=zbb.ns:=by
   unfold zed at ib;simp only[Bool.and_eq_true,decide_eq_true_eq]at ib;have kb:=ib.2.2.2.2;unfold zfm at kb;rw[if_pos q]at kb;obtain⟨f1,f2,f3⟩:=of_decide_eq_true kb;simp only[Ino.map,List.cons.injEq,and_true]at f3;simp[Ino.ns,zbb,q,f1,f2,f3]
  rw[yadt hz.symm,q]
  have:1<=j:=by
   rcases Nat.eq_zero_or_pos j with e | e
   ·exfalso;subst e;have:=zbk hj;rw[show((0:Nat):Int)=0 from rfl,k2]at this;omega
   ·exact e
  rw[decide_eq_true this];rfl
 ·rw[show(ws[j].kind == 0)=false by rw[beq_eq_false_iff_ne];exact q,Bool.and_false];exact yacp (fun e=>q (by have:=congrArg List.head? e;simp[Ino.ns,zbb]at this;exact this.symm))
theorem znt(v:Value)(ws:List Ino)(ps:List Den)(w:World)(h:RdIm w v ws ps)(hw:ws.length<=1048576)(hp:ps.length<=1048576)(hT:TS w)(hE:ED w)(hF:FD w)(hr:∀ k (h:k<ws.length),ws[k].R)(hs:∀ k (h:k<ps.length),ps[k].name.size<=maxLen) :
  zC 184 #[v] w fun e w'=>e=.returned (.tuple #[.I (fpV (zbg ws ps) (zba (fun i=>decide (1<=i)&&zaj ws (i:Int) == 0) ws.length)),.I (fpC (zbg ws ps) (zba (fun i=>decide (1<=i)&&zaj ws (i:Int) == 0) ws.length))])/\zB w w':=by
 have LI:=zaa (fun w1 (hb:zB w w1)=>zby v ws ps w1 (h.below hb) hw hp (hT.below hb) (hE.below hb) (hF.below hb) hr hs);have FS:=zaa (@yalo ws ps);obtain⟨vW,vP,rfl,h1,h2⟩:=h;have RW:=zaa h1;obtain⟨aW,cW,rfl,_,_⟩:=h1.shape;obtain⟨aP,cP,rfl,_,_⟩:=h2.shape;have LX:=zaa (fun w1 (hb:zB w w1)=>ztt (.slice aW ws.length cW) ws w1 (Rd.below RW.o hb) hw);have fb:=zdb (fun i=>decide (1<=i)&&zaj ws (i:Int) == 0) ws.length;clear h1 h2 hr hs hT hE hF
 have CA:Hid (∀ w',Below (w.alloc (.cells #[.slice aW ws.length cW,.slice aP ps.length cP] 51)).heap.size (w.alloc (.cells #[.slice aW ws.length cW,.slice aP ps.length cP] 51)) w'->w'.cell? ⟨w.heap.size,0,none⟩=some (.slice aW ws.length cW)/\w'.cell? ⟨w.heap.size,1,none⟩=some (.slice aP ps.length cP)):=fun w' hb=>by
  have:w'.heap[w.heap.size]?=some (.cells #[.slice aW ws.length cW,.slice aP ps.length cP] 51 (0,0)):=(hb.block _ (by simp)).trans (zaf rfl);exact⟨(zac this).1,(zac this).2.1⟩
 have BW:Hid (zB w (w.alloc (.cells #[.slice aW ws.length cW,.slice aP ps.length cP] 51))):=zR.alloc zL _;obtain⟨x0,x1⟩:=CA.o _ zR
 cases c1:zbg ws ps with
 | false =>
  rw[c1]at LI;generalize zba (fun i=>decide (1<=i)&&zaj ws (i:Int) == 0) ws.length=r;rw[show fpV false r=0 from rfl,show fpC false r=1 from rfl];clear c1;go_enter Tryz.func184,Tryz.ntmps184;go_wp2_with fail;refine(LI.o _ BW.o).mono ?_;rintro e w1 ⟨rfl,hb1⟩;have B1:=zaa (zab BW.o hb1 BW.o.size);clear hb1 x0 x1;go_wp2;go_ret2;exact⟨rfl,B1.o⟩
 | true =>
  rw[c1]at LI;rw[FS.o c1]at LX;clear c1 FS;generalize zba (fun i=>decide (1<=i)&&zaj ws (i:Int) == 0) ws.length=r at *
  by_cases q:r<0
  ·rw[show fpV true r=0 from if_pos q,show fpC true r=7 from if_pos q];go_enter Tryz.func184,Tryz.ntmps184;go_wp2_with fail;refine(LI.o _ BW.o).mono ?_;rintro e w1 ⟨rfl,hb1⟩;have B1:=zaa (zab BW.o hb1 BW.o.size);clear x0 x1;obtain⟨x0,x1⟩:=CA.o _ hb1;clear hb1;go_wp2_with fail;refine(LX.o _ B1.o).mono ?_;rintro e w2 ⟨rfl,hb2⟩;have B2:=zaa (zab B1.o hb2 B1.o.size);clear hb2 x0 x1;go_wp2;go_ret2;exact⟨rfl,B2.o⟩
  ·rw[show fpV true r=r from if_neg q,show fpC true r=0 from if_neg q];go_enter Tryz.func184,Tryz.ntmps184;go_wp2_with fail;refine(LI.o _ BW.o).mono ?_;rintro e w1 ⟨rfl,hb1⟩;have B1:=zaa (zab BW.o hb1 BW.o.size);clear x0 x1;obtain⟨x0,x1⟩:=CA.o _ hb1;clear hb1;go_wp2_with fail;refine(LX.o _ B1.o).mono ?_;rintro e w2 ⟨rfl,hb2⟩;have B2:=zaa (zab B1.o hb2 B1.o.size);clear hb2 x0 x1;go_wp2;go_ret2;exact⟨rfl,B2.o⟩
theorem ztl(v:Value)(ws:List Ino)(ps:List Den)(a b:Int)(w:World)(h:RdIm w v ws ps)(hn:ps.length<=1048576) :
  zC 204 #[v,.I a,.I b] w fun e w'=>e=.returned (.bool (ziv ps 17 a b))/\zB w w':=by
 have HR:=zaa h;obtain⟨vW,vP,rfl,h1,h2⟩:=h;obtain⟨aW,cW,rfl,_⟩:=h1.shape;obtain⟨aP,cP,rfl,_,hcP⟩:=h2.shape;clear h1 h2 hcP
 obtain⟨W,hW⟩:=zE (w.alloc (.cells #[.slice aW ws.length cW,.slice aP ps.length cP] 51))
 have CA:Hid (∀ w',zB W w'->w'.cell? ⟨w.heap.size,0,none⟩=some (.slice aW ws.length cW)/\w'.cell? ⟨w.heap.size,1,none⟩=some (.slice aP ps.length cP)):=fun w' hb=>by
  have:w'.heap[w.heap.size]?=some (.cells #[.slice aW ws.length cW,.slice aP ps.length cP] 51 (0,0)):=(hb.block _ (by rw[hW];simp)).trans (by rw[hW];exact zaf rfl);exact⟨(zac this).1,(zac this).2.1⟩
 have BW:Hid (zB w W):=by rw[hW];exact zR.alloc zL _
 have hz:w.heap.size<=W.heap.size:=BW.o.size;have LU:=zaa (fun d w1 h=>zyp (.agg #[.slice aW ws.length cW,.slice aP ps.length cP]) ws ps d w1 h hn);go_enter Tryz.func204,Tryz.ntmps204;go_wp2;rw[<- hW];clear hW
 go_loopw [1,7] (fun d i wr=>∃ (k:Nat) (z:Int),k<=17/\i=.I k/\d=.I z/\Hid (zB W wr/\ziv ps 17 a b=ziv ps (17-k) z b)) (fun _ i _=>17-(intOf i).toNat)
 case atStart=>exact⟨0,a,by omega,rfl,rfl,zR,rfl⟩
 case round =>
  obtain⟨k,z,hk,rfl,rfl,J⟩:=hrel;obtain⟨x0,x1⟩:=CA.o wr J.o.1;have B:=zaa (zab BW.o J.o.1 hz)
  by_cases hlt:k<17
  ·have ES:=zaa (show ziv ps (17-k) z b=if z<0 then false else if z=b then true else ziv ps (17-(k+1)) (upD ps z) b by
    rw[show 17-k=(17-(k+1))+1 by omega];rfl)
   have k16:(k:Int)<=16:=by omega
   by_cases q:z<0
   ·have E:=zaa (show ziv ps 17 a b=false by rw[J.o.2,ES.o,if_pos q])
    have q1:¬ z>=0:=by omega
    clear ES J;go_wp2;go_ret;exact⟨zai E.o.symm,B.o⟩
   ·have q1:z>=0:=by omega
    by_cases r:z=b
    ·subst r;have E:=zaa (show ziv ps 17 a z=true by rw[J.o.2,ES.o,if_neg q,if_pos rfl]);clear ES J;go_wp2;go_ret;exact⟨zai E.o.symm,B.o⟩
    ·have r1:(z == b)=false:=beq_eq_false_iff_ne.2 r;have R:=zaa (HR.o.below B.o);have E:=zaa (show ziv ps 17 a b=ziv ps (17-(k+1)) (upD ps z) b by rw[J.o.2,ES.o,if_neg q,if_neg r]);have J1:=zaa J.o.1;clear ES J q r;go_wp2_with fail;refine(LU.o _ _ R.o).mono ?_;rintro e w1 ⟨rfl,hb1⟩;have B1:=zaa (zab J1.o hb1 J1.o.size);clear hb1;go_wp2
     go_roundw
     case rel=>exact⟨k+1,_,by omega,by go_num,rfl,B1.o,E.o⟩
     case measure=>simp[intOf];omega
  ·obtain rfl:k=17:=by omega
   have E:=zaa (show ziv ps 17 a b=false by rw[J.o.2];rfl);clear J;go_wp2;go_ret;exact⟨zai E.o.symm,B.o⟩
theorem ybct{ws:List Ino}{ps:List Den}{a b:Int}(h:zbg ws ps=false):beC ws ps a b=1/\beV ws ps a b=false:=by
 have e:beC ws ps a b=1:=by unfold beC;rw[h];rfl
 exact⟨e,by unfold beV;rw[e];rfl⟩
theorem yahm{ws:List Ino}{ps:List Den}{a b:Int}(h:zbg ws ps=true)(q:¬ ((0<=a/\a<=15)/\(0<=b/\b<=15))):beC ws ps a b=4/\beV ws ps a b=false:=by
 have e:beC ws ps a b=4:=by unfold beC;rw[if_pos h,if_neg q]
 exact⟨e,by unfold beV;rw[e];rfl⟩
theorem yahj{ws:List Ino}{ps:List Den}{a b:Int}(h:zbg ws ps=true)(q:(0<=a/\a<=15)/\(0<=b/\b<=15))(r:¬ (zaj ws a=2/\zaj ws b=2)):beC ws ps a b=10/\beV ws ps a b=false:=by
 have e:beC ws ps a b=10:=by unfold beC;rw[if_pos h,if_pos q,if_neg r]
 exact⟨e,by unfold beV;rw[e];rfl⟩
theorem ybay{ws:List Ino}{ps:List Den}{a b:Int}(h:zbg ws ps=true)(q:(0<=a/\a<=15)/\(0<=b/\b<=15))(r:zaj ws a=2/\zaj ws b=2):beC ws ps a b=0/\beV ws ps a b=ziv ps 17 a b:=by
 have e:beC ws ps a b=0:=by unfold beC;rw[if_pos h,if_pos q,if_pos r]
 exact⟨e,by unfold beV;rw[e];rfl⟩
end Go.Proofs.YtogcbbkhnpmgeaaGreatDoor
