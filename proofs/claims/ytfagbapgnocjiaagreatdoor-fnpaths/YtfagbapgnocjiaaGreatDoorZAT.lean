import Derived.Test.YtfagbapgnocjiaaGreatDoorZAS
import Derived.WalkMore
set_option maxRecDepth 100000
set_option maxHeartbeats 4000000
namespace Go.Proofs.YtfagbapgnocjiaaGreatDoor
open Go.RowKit
def dep(ps:List Den):Nat->Int->Prop
 | 0,d=>d=0
 | k+1,d=>¬ d=0/\dep ps k (upD ps d)
theorem zvb{ps:List Den}:∀ (k j:Nat) (d:Int),dep ps k d->zcg ps j d=true->k<j
 | _,0,d,_,h=>by rw[zeb]at h;cases h
 | 0,j+1,_,_,_=>by omega
 | k+1,j+1,d,h1,h=>by
  have:=zvb k j _ h1.2 (zfd h h1.1).2;omega
theorem zri{ds:List Den}{c:Int}{a:Nat}:∀ (b:Nat),a<=b->b<=ds.length->zif ds c a<=zif ds c b
 | 0,h,_=>by
  obtain rfl:a=0:=by omega
  exact Nat.le_refl _
 | b+1,h,hb=>by
  by_cases q:a=b+1
  ·subst q;exact Nat.le_refl _
  ·have:=zri (ds:=ds) (c:=c) (a:=a) b (by omega) (by omega);rw[zfv (by omega)];omega
theorem yagu{ds:List Den}{c:Int}{k:Nat}(h:k<ds.length)(e:ds[k].child=c):zif ds c (k+1)=zif ds c k+1:=by
 rw[zfv h,if_pos (beq_iff_eq.2 e)]
theorem yane{ws:List Ino}{ps:List Den}(h:zbo ws ps=true){c:Int}(hc:1<=c/\c<=15)(hk:zag ws c=2):zif ps c ps.length=1:=by
 obtain⟨hl,_,_,hN,_,hL,_⟩:=zao h
 obtain⟨n,rfl⟩:∃ n:Nat,c=(n:Int):=⟨c.toNat,by omega⟩
 have hn:n<ws.length:=by omega
 have a:=(of_decide_eq_true hL:∀ i (h:i<ws.length),zfn ps i ws[i]=true) n hn;have b:=(of_decide_eq_true hN:∀ k (h:k<ws.length),zdp ws[k]=true) n hn;rw[zbc hn]at hk;unfold zfn at a;unfold zdp zek at b;rw[if_neg (show ¬ ws[n].kind=0 by omega),if_pos hk]at b;simp only[Bool.and_eq_true,decide_eq_true_eq,beq_iff_eq]at a b;have e1:=a.1;have e2:=b.2.2.2.2.2;rw[if_neg (show ¬ n=0 by omega)]at e1;omega
theorem yajm{ws:List Ino}{ps:List Den}(h:zbo ws ps=true){i k:Nat}(hik:i<k)(hk:k<ps.length){c:Int}(hc:1<=c/\c<=15)(q:zag ws c=2)(ei:ps[i].child=c)(ek:ps[k].child=c):False:=by
 have a:=yane h hc q;have b:=yagu (show i<ps.length by omega) ei;have d:=yagu hk ek;have e:=zri (ds:=ps) (c:=c) (a:=i+1) k (by omega) (by omega);have f:=zri (ds:=ps) (c:=c) (a:=k+1) ps.length (by omega) zL;omega
theorem yagq{ws:List Ino}{ps:List Den}(h:zbo ws ps=true){k:Nat}(hk:k<ps.length)(hc:1<=ps[k].child/\ps[k].child<=15)(q:zag ws ps[k].child=2):upD ps ps[k].child=ps[k].dir :=
 zqp hk (fun _ _ hjk e=>yajm h hjk hk hc q e rfl) rfl
theorem zgl{ws:List Ino}{ps:List Den}(h:zbo ws ps=true){n k:Nat}(hk:k<ps.length)(hc:1<=ps[k].child/\ps[k].child<=15)(q:zag ws ps[k].child=2)(hd:dep ps n ps[k].dir):dep ps (n+1) ps[k].child :=
 ⟨by omega,by rw[yagq h hk hc q];exact hd⟩
theorem zna{ws:List Ino}{ps:List Den}(h:zbo ws ps=true){n:Nat}{d:Int}(h0:0<=d/\d<=15)(q:zag ws d=2)(hd:dep ps n d):n<16:=zvb n 16 d hd (zqc h h0 q)
def zfm(ps:List Den)(d:Int)(nm:ByteArray):Int:=match zbj ps d nm with | none=>0 | some k=>zap ps k
def zrg(ws:List Ino)(ps:List Den):Nat->Int->ByteArray->List ByteArray
 | 0,_,_=>[]
 | n+1,d,hd=>(zbk (zaw ps d)).flatMap fun nm=>(hd++⟨#[47]⟩++nm)::(if zag ws (zfm ps d nm)=2 then zrg ws ps n (zfm ps d nm) (hd++⟨#[47]⟩++nm) else[])
def pthR(rs:List Den):Nat->Int->ByteArray->List ByteArray
 | 0,_,_=>[]
 | n+1,d,hd=>(rs.filter fun x=>x.dir == d).flatMap fun x=>(hd++⟨#[47]⟩++x.name)::pthR rs n x.child (hd++⟨#[47]⟩++x.name)
theorem zur{rs:List Den}{d:Int}(h:∀ x∈rs,¬ x.dir=d)(n:Nat)(hd:ByteArray):pthR rs n d hd=[]:=by
 cases n with
 | zero=>rfl
 | succ n =>
  unfold pthR;rw[List.filter_eq_nil_iff.2 (fun x hx=>by simp[h x hx])];rfl
theorem yadq{ws:List Ino}{ps:List Den}(h:zbo ws ps=true){d:Int}{nm:ByteArray}{i k:Nat}(hik:i<k)(hk:k<ps.length)(e1:zbf d nm ps[i]=true)(e2:zbf d nm ps[k]=true):False:=by
 obtain⟨_,_,_,_,he,_,_⟩:=zao h;have e:=(of_decide_eq_true he:∀ i (h:i<ps.length),zcj ws ps i ps[i]=true) k hk;unfold zbf at e1 e2;simp only[Bool.and_eq_true,decide_eq_true_eq,beq_iff_eq]at e1 e2;unfold zcj at e;rw[if_neg (by omega)]at e;simp only[Bool.and_eq_true,List.all_eq_true]at e;have c:=e.2.2.2.2.2 ps[i] (List.mem_take_iff_getElem.2 ⟨i,by omega,rfl⟩);unfold zde at c;rw[e1.2.1,e1.2.2,e2.2.1,e2.2.2,decide_eq_true e1.1]at c;simp at c
theorem zpq{ws:List Ino}{ps:List Den}(h:zbo ws ps=true){k:Nat}(hk:k<ps.length)(hc:0<=ps[k].child):zfm ps ps[k].dir ps[k].name=ps[k].child:=by
 have e:zbf ps[k].dir ps[k].name ps[k]=true:=by unfold zbf;rw[decide_eq_true hc];simp
 have a:zbj ps ps[k].dir ps[k].name=some k:=zsn hk (fun j hj hjk=>by
  cases q:zbf ps[k].dir ps[k].name ps[j] with
  | false=>rfl
  | true=>exact(yadq h hjk hk q e).elim) e
 unfold zfm;rw[a];exact zch hk
theorem zul{α β γ:Type}{f:α->β}{g:β->List γ}{F:α->List γ}:∀ (l:List α),(∀ x∈l,F x=g (f x))->l.flatMap F=(l.map f).flatMap g
 | [],_=>rfl
 | x::l,h=>by
  rw[List.flatMap_cons,List.map_cons,List.flatMap_cons,h x List.mem_cons_self,zul l fun y hy=>h y (List.mem_cons_of_mem _ hy)]
theorem zzy{ws:List Ino}{ps rs:List Den}(h:zbo ws ps=true)(hm:∀ x∈rs,∃ (k:Nat) (hk:k<ps.length),ps[k]=x/\0<=x.child)(hN:∀ d,(rs.filter fun x=>x.dir == d).map Den.name=zbk (zaw ps d)):∀ (n:Nat) (d:Int) (hd:ByteArray),pthR rs n d hd=zrg ws ps n d hd
 | 0,_,_=>rfl
 | n+1,d,hd=>by
  unfold pthR zrg;rw[<- hN d]
  refine zul _ fun x hx=>?_
  rw[List.mem_filter,beq_iff_eq]at hx;obtain⟨k,hk,rfl,hc⟩:=hm x hx.1;have e:=zpq h hk hc;rw[hx.2]at e;rw[e]
  by_cases q:zag ws ps[k].child=2
  ·rw[if_pos q,zzy h hm hN n]
  ·rw[if_neg q,zur];intro y hy ey;obtain⟨j,hj,rfl,hcj⟩:=hm y hy
   rcases zdg h j hj with r | r
   ·omega
   ·rw[ey]at r;exact q r.2.2.2.2
theorem zgg(v:Value)(ws:List Ino)(ps:List Den)(t:Int)(n:Nat)(w:World)(h:RdIm w v ws ps)(hl:ws.length<=4096)(hr:∀ k (h:k<ws.length),∀ z∈ws[k].map,0<=z/\z<=1048576)(hn:n<=1000) :
  zC 141 #[v,.I t,.I (n:Int)] w fun e w'=>e=.returned (.I (zbu (fun i=>!zgv (zbm (zaq ws) t) (i:Int)) n))/\zB w w':=by
 have HRD:=zaa h;have LU:=zaa (fun w1 h=>znk v ws ps t w1 h hl hr)
 have UL:(zbm (zaq ws) t).length<=1048576:=by have:=zkj (zaq ws) t;have:=zhi ws;omega
 obtain⟨vW,vP,rfl,h1,h2⟩:=h;obtain⟨aW,cW,rfl,_,hcW⟩:=h1.shape;obtain⟨aP,cP,rfl,_,_⟩:=h2.shape;clear h1 h2 hcW hr
 have CA:Hid (∀ w',Below (w.alloc (.cells #[.slice aW ws.length cW,.slice aP ps.length cP] 26)).heap.size (w.alloc (.cells #[.slice aW ws.length cW,.slice aP ps.length cP] 26)) w'->w'.cell? ⟨w.heap.size,0,none⟩=some (.slice aW ws.length cW)/\w'.cell? ⟨w.heap.size,1,none⟩=some (.slice aP ps.length cP)):=fun w' hb=>by
  have:w'.heap[w.heap.size]?=some (.cells #[.slice aW ws.length cW,.slice aP ps.length cP] 26 (0,0)):=(hb.block _ (by simp)).trans (zai rfl);exact⟨(zad this).1,(zad this).2.1⟩
 have BW:Hid (zB w (w.alloc (.cells #[.slice aW ws.length cW,.slice aP ps.length cP] 26))):=zR.alloc zL _;obtain⟨x0,x1⟩:=CA.o _ zR;generalize zbm (zaq ws) t=zs at *;go_enter Tryz.func141,Tryz.ntmps141;go_wp2_with fail;refine(LU.o _ (HRD.o.below BW.o)).mono ?_;rintro e w1 ⟨v1,rfl,hr1,hb1⟩;obtain⟨-,aL,cL,hvL,-⟩:=hr1.rd;subst hvL;have R1:Hid (RdI w1 (.slice aL zs.length cL) zs):=hr1.rd;have B1:=zaa (zab BW.o hb1 BW.o.size);clear hr1 hb1 x0 x1 CA;go_wp2
 go_loopw [8] (fun i wr=>∃ k:Nat,k<=n/\i=.I k/\wr=w1/\Hid (∀ j,j<k->(!zgv zs (j:Int))=false)) (fun i _=>n-(intOf i).toNat)
 case atStart=>exact⟨0,by omega,rfl,rfl,fun j a=>absurd a (by omega)⟩
 case round =>
  obtain⟨k,hk,rfl,rfl,H⟩:=hrel
  have k0:(0:Int)<=(k:Int):=by omega
  by_cases hlt:k<n
  ·have k1:(k:Int)<(n:Int):=by omega
   have LH:=zaa (zju (.slice aL zs.length cL) zs (k:Int) _ R1.o UL)
   cases q:zgv zs (k:Int) with
   | true =>
    have H':Hid (∀ j,j<k+1->(!zgv zs (j:Int))=false):=fun j a=>by
     by_cases e:j=k
     ·subst e;rw[q];rfl
     ·exact H.o j (by omega)
    rw[q]at LH;clear q H;go_wp2_with (go_at_call 93;refine LH.o.mono ?_;rintro e w' ⟨rfl,rfl⟩)
    go_roundw
    case rel=>exact⟨k+1,by omega,by go_num,trivial,H'⟩
    case measure=>simp[intOf];omega
   | false =>
    have E:=zaa (zrq (p:=fun i=>!zgv zs (i:Int)) hlt H.o (by rw[q];rfl));rw[q]at LH;clear q H;go_wp2_with (go_at_call 93;refine LH.o.mono ?_;rintro e w' ⟨rfl,rfl⟩);go_ret;exact⟨zcx E.o.symm,B1.o⟩
  ·have E:=zaa (zjv (p:=fun i=>!zgv zs (i:Int)) (n:=n) (fun j hj=>H.o j (by omega)));clear H;go_wp2;go_ret;exact⟨zcx E.o.symm,B1.o⟩
theorem zld(v:Value)(ws:List Ino)(ps:List Den)(w:World)(h:RdIm w v ws ps)(hl:ws.length<=4096) :
  zC 188 #[v] w fun e w'=>e=.returned (.I (zbu (fun i=>decide (1<=i)&&zag ws (i:Int) == 0) ws.length))/\zB w w':=by
 obtain⟨vW,vP,rfl,h1,h2⟩:=h;obtain⟨aW,cW,rfl,_,hcW⟩:=h1.shape;obtain⟨aP,cP,rfl,_,_⟩:=h2.shape;have HW:=zaa hcW;clear h1 h2 hcW
 have CA:Hid (∀ w',Below (w.alloc (.cells #[.slice aW ws.length cW,.slice aP ps.length cP] 26)).heap.size (w.alloc (.cells #[.slice aW ws.length cW,.slice aP ps.length cP] 26)) w'->w'.cell? ⟨w.heap.size,0,none⟩=some (.slice aW ws.length cW)/\w'.cell? ⟨w.heap.size,1,none⟩=some (.slice aP ps.length cP)):=fun w' hb=>by
  have:w'.heap[w.heap.size]?=some (.cells #[.slice aW ws.length cW,.slice aP ps.length cP] 26 (0,0)):=(hb.block _ (by simp)).trans (zai rfl);exact⟨(zad this).1,(zad this).2.1⟩
 have BW:Hid (zB w (w.alloc (.cells #[.slice aW ws.length cW,.slice aP ps.length cP] 26))):=zR.alloc zL _;obtain⟨x0,x1⟩:=CA.o _ zR;clear x0 x1
 obtain⟨W,hW⟩:=zE (w.alloc (.cells #[.slice aW ws.length cW,.slice aP ps.length cP] 26))
 rw[<- hW]at CA BW;obtain⟨y0,y1⟩:=CA.o _ zR;go_enter Tryz.func188,Tryz.ntmps188;go_wp2;rw[<- hW];clear hW
 go_loopw [3] (fun i wr=>∃ k:Nat,(1<=k/\(k<=ws.length\/k=1))/\i=.I k/\wr=W/\Hid (∀ j,j<k->(decide (1<=j)&&zag ws (j:Int) == 0)=false)) (fun i _=>ws.length+1-(intOf i).toNat)
 case atStart=>exact⟨1,by omega,rfl,rfl,fun j a=>by rw[decide_eq_false (by omega)];rfl⟩
 case round =>
  obtain⟨k,hk,rfl,rfl,H⟩:=hrel
  have k0:(0:Int)<=(k:Int):=by omega
  by_cases hlt:k<ws.length
  ·obtain⟨b,o,rfl,hbl,hcell⟩:=HW.o (by omega);have d0:=(BW.o.cell (p:=⟨b,o+k*11,none⟩) hbl).trans (hcell k hlt).1;rw[<- zbc hlt]at d0
   have k1:(k:Int)<(ws.length:Int):=by omega
   have P:=zaa (show(decide (1<=k)&&zag ws (k:Int) == 0)=(zag ws (k:Int) == 0) by rw[decide_eq_true hk.1];rfl);clear hcell
   cases q:(zag ws (k:Int) == 0) with
   | true =>
    have E:=zaa (zrq (p:=fun i=>decide (1<=i)&&zag ws (i:Int) == 0) hlt H.o (by show(decide (1<=k)&&zag ws (k:Int) == 0)=true;rw[P.o,q]));clear H P;generalize zag ws (k:Int)=z at d0 q;go_wp2;go_ret;exact⟨zcx E.o.symm,BW.o⟩
   | false =>
    have H':Hid (∀ j,j<k+1->(decide (1<=j)&&zag ws (j:Int) == 0)=false):=fun j a=>by
     by_cases e:j=k
     ·subst e;rw[P.o,q]
     ·exact H.o j (by omega)
    clear H P;generalize zag ws (k:Int)=z at d0 q;go_wp2
    go_roundw
    case rel=>exact⟨k+1,by omega,by go_num,trivial,H'⟩
    case measure=>simp[intOf];omega
  ·have E:=zaa (zjv (p:=fun i=>decide (1<=i)&&zag ws (i:Int) == 0) (n:=ws.length) (fun j hj=>H.o j (by omega)))
   have k2:¬ (k:Int)<(ws.length:Int):=by omega
   clear H;go_wp2;go_ret;exact⟨zcx E.o.symm,BW.o⟩
def zhe:Ino:=⟨0,0,0,0,0,0,0,0,0,0,0⟩
theorem zob(v:Value)(ws:List Ino)(ps:List Den)(i:Int)(w:World)(h:RdIm w v ws ps)(hl:ws.length=16)(h0:0<=i/\i<=15) :
  zC 30 #[v,.I i] w fun e w'=>e=.returned (.bool (zag ws i == 2))/\zB w w':=by
 obtain⟨vW,vP,rfl,h1,h2⟩:=h;obtain⟨aW,cW,rfl,_,hcW⟩:=h1.shape;obtain⟨aP,cP,rfl,_,_⟩:=h2.shape
 obtain⟨n,rfl⟩:∃ n:Nat,i=(n:Int):=⟨i.toNat,by omega⟩
 have hn:n<ws.length:=by omega
 obtain⟨bW,oW,rfl,hblW,hcellW⟩:=hcW (by omega);have BW:Hid (zB w (w.alloc (.cells #[.slice (some ⟨bW,oW,none⟩) ws.length cW,.slice aP ps.length cP] 26))):=zR.alloc zL _;have k0:=(BW.o.cell (p:=⟨bW,oW+n*11,none⟩) hblW).trans (hcellW n hn).1;rw[<- zbc hn]at k0
 have n0:(0:Int)<=(n:Int):=by omega
 have n1:(n:Int)<(ws.length:Int):=by omega
 clear h1 h2 hcW hcellW hl h0 hn;generalize zag ws (n:Int)=kk at *;go_enter Tryz.func30,Tryz.ntmps30;go_wp2;go_ret;exact⟨rfl,BW.o⟩
theorem yamh{ps:List Den}(u0:upD ps 0=-1){x b:Int}(h:zcg ps 16 x=true)(hx:0<=x)(q:¬ x=b):(x=0->zgr ps 16 x b=false)/\(¬ x=0->0<=upD ps x/\zcg ps 16 (upD ps x)=true/\zgr ps 16 x b=zgr ps 16 (upD ps x) b):=by
 have n0:¬ x<0:=by omega
 have e:zgr ps 16 x b=zgr ps 15 (upD ps x) b:=by rw[show(16:Nat)=15+1 from rfl,zdk,if_neg n0,if_neg q]
 refine⟨fun z=>?_,fun z=>?_⟩
 ·rw[e,z,u0,zmb ps 15 (-1) b (by omega)]
 ·obtain⟨h1,h2⟩:=zfd (k:=15) h z;refine⟨h1,zpp 15 _ h2,?_⟩;rw[e,zrp u0 15 16 _ b h2 h1 (by omega)]
def deep(ps:List Den):Nat->Int->Nat
 | 0,_=>0
 | n+1,x=>if x=0 then 0 else 1+deep ps n (upD ps x)
theorem zup{ps:List Den}:∀ (k n:Nat) (a:Int),zcg ps k a=true->k<=n->deep ps n a=deep ps k a
 | 0,_,_,h,_=>by rw[zeb]at h;cases h
 | k+1,0,_,_,hn=>absurd hn (by omega)
 | k+1,n+1,a,h,hn=>by
  show(if a=0 then 0 else 1+deep ps n (upD ps a))=(if a=0 then 0 else 1+deep ps k (upD ps a))
  by_cases r:a=0
  ·rw[if_pos r,if_pos r]
  ·rw[if_neg r,if_neg r,zup k n _ (zfd h r).2 (by omega)]
theorem yaix{ps:List Den}{x:Int}(h:zcg ps 16 x=true)(q:¬ x=0):deep ps 16 (upD ps x)<deep ps 16 x:=by
 have e:deep ps 16 x=1+deep ps 15 (upD ps x):=by
  show(if x=0 then 0 else 1+deep ps 15 (upD ps x))=_
  rw[if_neg q]
 rw[e,zup 15 16 _ (zfd (k:=15) h q).2 (by omega)];omega
theorem zol(v:Value)(ws:List Ino)(ps:List Den)(a b:Int)(w:World)(h:RdIm w v ws ps)(hw:ws.length<=1048576)(hp:ps.length<=1048576)(hT:TS w)(hE:ED w)(hF:FD w)(hr:∀ k (h:k<ws.length),ws[k].R)(hs:∀ k (h:k<ps.length),ps[k].name.size<=maxLen) :
  zC 13 #[v,.I a,.I b] w fun e w'=>e=.returned (.tuple #[.bool (beV ws ps a b),.I (beC ws ps a b)])/\zB w w':=by
 have HRD:=zaa h;have LI:=zaa (fun w1 (hb:zB w w1)=>zdo v ws ps w1 (h.below hb) hw hp (hT.below hb) (hE.below hb) (hF.below hb) hr hs);have LD:=zaa (fun i w1 h (hl:ws.length=16) (h0:0<=i/\i<=15)=>zob v ws ps i w1 h hl h0);obtain⟨vW,vP,rfl,h1,h2⟩:=h;obtain⟨aW,cW,rfl,_,_⟩:=h1.shape;obtain⟨aP,cP,rfl,_,hcP⟩:=h2.shape;have HP:=zaa hcP;clear h1 h2 hr hs hcP hT hE hF
 obtain⟨W,hW⟩:=zE (w.alloc (.cells #[.slice aW ws.length cW,.slice aP ps.length cP] 26))
 have CA:Hid (∀ w',zB W w'->w'.cell? ⟨w.heap.size,0,none⟩=some (.slice aW ws.length cW)/\w'.cell? ⟨w.heap.size,1,none⟩=some (.slice aP ps.length cP)):=fun w' hb=>by
  have:w'.heap[w.heap.size]?=some (.cells #[.slice aW ws.length cW,.slice aP ps.length cP] 26 (0,0)):=(hb.block _ (by rw[hW];simp)).trans (by rw[hW];exact zai rfl);exact⟨(zad this).1,(zad this).2.1⟩
 have BW:Hid (zB w W):=by rw[hW];exact zR.alloc zL _
 have hzW:w.heap.size<=W.heap.size:=BW.o.size
 cases c1:zbo ws ps with
 | false =>
  obtain⟨E1,E2⟩:=yasg (a:=a) (b:=b) c1;rw[c1]at LI;rw[E1,E2];clear c1 E1 E2;go_enter Tryz.func13,Tryz.ntmps13;go_wp2_with fail;go_step3;go_wp2_with fail;rw[<- hW];clear hW;refine(LI.o _ BW.o).mono ?_;rintro e w1 ⟨rfl,hb1⟩;have B1:=zaa (zab BW.o hb1 BW.o.size);have BA1:=zaa hb1;obtain⟨x0,x1⟩:=CA.o _ hb1;clear hb1;go_wp2
  try rw[Exit.noGoto_ret]
  go_ret2;exact⟨rfl,B1.o⟩
 | true =>
 have C1:=zaa c1;rw[c1]at LI
 by_cases c2:0<=a/\a<=15
 case neg =>
  obtain⟨E1,E2⟩:=yaar (a:=a) (b:=b) c1 (fun q=>c2 q.1);rw[E1,E2]
  have C2:Hid (¬ (0<=a/\a<16)):=fun q=>c2 (by omega)
  clear c1 E1 E2 c2;go_enter Tryz.func13,Tryz.ntmps13;go_wp2_with fail;go_step3;go_wp2_with fail;rw[<- hW];clear hW;refine(LI.o _ BW.o).mono ?_;rintro e w1 ⟨rfl,hb1⟩;have B1:=zaa (zab BW.o hb1 BW.o.size);have BA1:=zaa hb1;obtain⟨x0,x1⟩:=CA.o _ hb1;clear hb1;go_wp2_with fail;refine(zdy _ _ _ C2.o).mono ?_;rintro e w2 ⟨rfl,hw2⟩;subst w2;go_wp2
  try rw[Exit.noGoto_ret]
  go_ret2;exact⟨rfl,B1.o⟩
 by_cases c3:0<=b/\b<=15
 case neg =>
  obtain⟨E1,E2⟩:=yaar (a:=a) (b:=b) c1 (fun q=>c3 q.2);rw[E1,E2]
  have C2:Hid (0<=a/\a<16):=by unfold Hid;omega
  have C3:Hid (¬ (0<=b/\b<16)):=fun q=>c3 (by omega)
  clear c1 E1 E2 c2 c3;go_enter Tryz.func13,Tryz.ntmps13;go_wp2_with fail;go_step3;go_wp2_with fail;rw[<- hW];clear hW;refine(LI.o _ BW.o).mono ?_;rintro e w1 ⟨rfl,hb1⟩;have B1:=zaa (zab BW.o hb1 BW.o.size);have BA1:=zaa hb1;obtain⟨x0,x1⟩:=CA.o _ hb1;clear hb1;go_wp2_with fail;refine(zba _ _ _ C2.o).mono ?_;rintro e w2 ⟨rfl,hw2⟩;subst w2;go_wp2_with fail;refine(zdy _ _ _ C3.o).mono ?_;rintro e w2 ⟨rfl,hw2⟩;subst w2;go_wp2
  try rw[Exit.noGoto_ret]
  go_ret2;exact⟨rfl,B1.o⟩
 have L16:=zaa (zao c1).1;have L24:=zaa (zao c1).2.1;have U0:=zaa (ztx c1)
 have C2:Hid (0<=a/\a<16):=by unfold Hid;omega
 have C3:Hid (0<=b/\b<16):=by unfold Hid;omega
 have D2:=zaa c2;have D3:=zaa c3;have NO:=zaa (fun r=>yamx C1.o ⟨D2.o,D3.o⟩ r);have YES:=zaa (fun r=>yaue C1.o ⟨D2.o,D3.o⟩ r);have HG:=zaa (fun hk=>zqc C1.o D2.o hk)
 have HD:Hid (∀ k (h:k<ps.length),ps[k].child=0->False):=fun k h e=>by
  rcases zdg C1.o k h with q | q<;>omega
 have LA:=zaa (fun w1 (hb:zB w w1)=>LD.o a w1 (HRD.o.below hb) L16.o D2.o);have LB:=zaa (fun w1 (hb:zB w w1)=>LD.o b w1 (HRD.o.below hb) L16.o D3.o);clear c1 c2 c3 LD;generalize zag ws a=ka at *;generalize zag ws b=kb at *;generalize beC ws ps a b=ec at *;generalize beV ws ps a b=ev at *
 by_cases c4:ka=2
 case neg =>
  obtain⟨E1,E2⟩:=NO.o (fun q=>c4 q.1)
  have Q1:Hid ((ka == 2)=false):=by unfold Hid;rw[beq_eq_false_iff_ne];exact c4
  subst E1 E2;clear c4 NO YES HG;go_enter Tryz.func13,Tryz.ntmps13;go_wp2_with fail;go_step3;go_wp2_with fail;rw[<- hW];clear hW;refine(LI.o _ BW.o).mono ?_;rintro e w1 ⟨rfl,hb1⟩;have B1:=zaa (zab BW.o hb1 BW.o.size);have BA1:=zaa hb1;obtain⟨x0,x1⟩:=CA.o _ hb1;clear hb1;go_wp2_with fail;refine(zba _ _ _ C2.o).mono ?_;rintro e w2 ⟨rfl,hw2⟩;subst w2;go_wp2_with fail;refine(zba _ _ _ C3.o).mono ?_;rintro e w2 ⟨rfl,hw2⟩;subst w2;go_wp2_with fail;refine(LA.o _ B1.o).mono ?_;rw[Q1.o];rintro e w3 ⟨rfl,hb⟩;have B3:=zaa (zab B1.o hb B1.o.size);have BA3:=zaa (zab BA1.o hb BA1.o.size);clear hb x0 x1;obtain⟨x0,x1⟩:=CA.o _ BA3.o;go_wp2
  try rw[Exit.noGoto_ret]
  go_ret2;exact⟨rfl,B3.o⟩
 by_cases c5:kb=2
 case neg =>
  obtain⟨E1,E2⟩:=NO.o (fun q=>c5 q.2)
  have Q1:Hid ((ka == 2)=true):=by unfold Hid;rw[c4];rfl
  have Q2:Hid ((kb == 2)=false):=by unfold Hid;rw[beq_eq_false_iff_ne];exact c5
  subst E1 E2;clear c4 c5 NO YES HG;go_enter Tryz.func13,Tryz.ntmps13;go_wp2_with fail;go_step3;go_wp2_with fail;rw[<- hW];clear hW;refine(LI.o _ BW.o).mono ?_;rintro e w1 ⟨rfl,hb1⟩;have B1:=zaa (zab BW.o hb1 BW.o.size);have BA1:=zaa hb1;obtain⟨x0,x1⟩:=CA.o _ hb1;clear hb1;go_wp2_with fail;refine(zba _ _ _ C2.o).mono ?_;rintro e w2 ⟨rfl,hw2⟩;subst w2;go_wp2_with fail;refine(zba _ _ _ C3.o).mono ?_;rintro e w2 ⟨rfl,hw2⟩;subst w2;go_wp2_with fail;refine(LA.o _ B1.o).mono ?_;rw[Q1.o];rintro e w3 ⟨rfl,hb⟩;have B3:=zaa (zab B1.o hb B1.o.size);have BA3:=zaa (zab BA1.o hb BA1.o.size);clear hb x0 x1;obtain⟨x0,x1⟩:=CA.o _ BA3.o;go_wp2_with fail;refine(LB.o _ B3.o).mono ?_;rw[Q2.o];rintro e w4 ⟨rfl,hb⟩;have B4:=zaa (zab B3.o hb B3.o.size);have BA4:=zaa (zab BA3.o hb BA3.o.size);clear hb x0 x1;obtain⟨x0,x1⟩:=CA.o _ BA4.o;go_wp2
  try rw[Exit.noGoto_ret]
  go_ret2;exact⟨rfl,B4.o⟩
 obtain⟨E1,E2⟩:=YES.o ⟨c4,c5⟩
 have Q1:Hid ((ka == 2)=true):=by unfold Hid;rw[c4];rfl
 have Q2:Hid ((kb == 2)=true):=by unfold Hid;rw[c5];rfl
 have G:=zaa (HG.o c4);have ST:=zaa (fun x h hx q=>yamh U0.o (x:=x) (b:=b) h hx q);have EV:Hid (ev=zgr ps 16 a b):=E2.trans (zrp U0.o 16 17 a b G.o D2.o.1 (by omega));subst E1;clear c4 c5 NO YES HG E2;go_enter Tryz.func13,Tryz.ntmps13;go_wp2_with fail;go_step3;go_wp2_with fail;rw[<- hW];clear hW;refine(LI.o _ BW.o).mono ?_;rintro e w1 ⟨rfl,hb1⟩;have B1:=zaa (zab BW.o hb1 BW.o.size);have BA1:=zaa hb1;obtain⟨x0,x1⟩:=CA.o _ hb1;clear hb1;go_wp2_with fail;refine(zba _ _ _ C2.o).mono ?_;rintro e w2 ⟨rfl,hw2⟩;subst w2;go_wp2_with fail;refine(zba _ _ _ C3.o).mono ?_;rintro e w2 ⟨rfl,hw2⟩;subst w2;go_wp2_with fail;refine(LA.o _ B1.o).mono ?_;rw[Q1.o];rintro e w3 ⟨rfl,hb⟩;have B3:=zaa (zab B1.o hb B1.o.size);have BA3:=zaa (zab BA1.o hb BA1.o.size);clear hb x0 x1;obtain⟨x0,x1⟩:=CA.o _ BA3.o;go_wp2_with fail;refine(LB.o _ B3.o).mono ?_;rw[Q2.o];rintro e w4 ⟨rfl,hb⟩;have B4:=zaa (zab B3.o hb B3.o.size);have BA4:=zaa (zab BA3.o hb BA3.o.size);clear hb x0 x1;obtain⟨x0,x1⟩:=CA.o _ BA4.o;clear B3 BA3 B1 BA1 LA LB LI Q1 Q2 x0 x1;have hz4:W.heap.size<=w4.heap.size:=BA4.o.size;go_wp2_with fail;go_step3;go_wp2_with fail
 go_loopg [1] (deep ps 16 a) (fun g d wr=>∃ z:Int,d=.I z/\Hid ((0<=z/\zcg ps 16 z=true)/\zgr ps 16 a b=zgr ps 16 z b/\zB w4 wr/\deep ps 16 z<=g))
 case atStart=>exact⟨a,rfl,⟨D2.o.1,G.o⟩,rfl,zR,Nat.le_refl _⟩
 case round =>
  obtain⟨z,rfl,J⟩:=hrel;have JW:=zaa (zab B4.o J.o.2.2.1 B4.o.size);have JA:=zaa (zab BA4.o J.o.2.2.1 hz4);obtain⟨x0,x1⟩:=CA.o _ JA.o
  by_cases q:z=b
  ·have q1:(z != b)=false:=by rw[q];simp
   have E:Hid (ev=true):=by
    unfold Hid;rw[EV.o,J.o.2.1,q,show(16:Nat)=15+1 from rfl,zdk,if_neg (by have:=J.o.1.1;omega),if_pos rfl]
   clear J q;obtain rfl:=E.o;go_wp2
   try rw[Exit.noGoto_ret]
   go_ret2;exact⟨rfl,JW.o⟩
  ·have q1:(z != b)=true:=by rw[bne_iff_ne];exact q
   obtain⟨S0,S1⟩:=ST.o z J.o.1.2 J.o.1.1 q;have S0:=zaa S0;have S1:=zaa S1;have J3:=zaa J.o.2.2.1;have DS:=zaa (fun q=>yaix (ps:=ps) (x:=z) J.o.1.2 q);clear q;go_wp2_with fail;generalize gk=G0 at *;generalize hV:wr=V at *;clear hV;have hzV:w4.heap.size<=V.heap.size:=J3.o.size;have JD:=zaa J.o;clear J
   go_loopg [1,37] ps.length (fun g2 d i wq=>∃ k:Nat,k+g2=ps.length/\d=.I z/\i=.I k/\Hid (zB V wq/\∀ j (h:j<ps.length),j<k->¬ ps[j].child=z))
   case atStart=>exact⟨0,by omega,rfl,rfl,zR,fun j h a=>absurd a (by omega)⟩
   case round =>
    obtain⟨k,hk,rfl,rfl,K⟩:=hrel;have KW:=zaa (zab JW.o K.o.1 JW.o.size);have K4:=zaa (zab J3.o K.o.1 hzV)
    have k0:(0:Int)<=(k:Int):=by omega
    by_cases hlt:k<ps.length
    ·obtain⟨b0,o0,rfl,hbl,hcell⟩:=HP.o (by omega);obtain⟨a0,a1,a2⟩:=hcell k hlt;have d0:=(KW.o.cell (p:=⟨b0,o0+k*3,none⟩) hbl).trans a0;have d1:=(KW.o.cell (p:=⟨b0,o0+k*3+1,none⟩) hbl).trans a1;have d2:=(KW.o.cell (p:=⟨b0,o0+k*3+2,none⟩) hbl).trans a2
     have k1:(k:Int)<(ps.length:Int):=by omega
     have HY:=zaa (fun e:ps[k].child=z=>zqp hlt K.o.2 e)
     have HX:=zaa (fun(e:¬ ps[k].child=z) j (h:j<ps.length) (a:j<k+1)=>show ¬ ps[j].child=z by
      by_cases q:j=k
      ·subst q;exact e
      ·exact K.o.2 j h (by omega))
     have HZ:=zaa (fun e:ps[k].child=z=>fun z0:z=0=>HD.o k hlt (e.trans z0));have K1:=zaa K.o.1;clear hcell a0 a1 a2 K;generalize ps[k].child=y at *;generalize ps[k].dir=yd at *;generalize ps[k].name=yn at *;have BX:=zaa ((Below.refl wr.heap.size wr).alloc zL (.cells #[.I yd,.string yn,.I y] 52))
     by_cases q:y=z
     ·have q1:(y == z)=true:=beq_iff_eq.2 q;have E:=zaa (HY.o q);have z0:=HZ.o q;have S2:=zaa (S1.o z0);have D2':=zaa (DS.o z0);have B5:=zaa (zab K4.o BX.o K4.o.size);rw[E.o]at S2 D2';clear q HX HY HZ;go_wp2
      go_roundg (deep ps 16 yd)
      case measure=>have:=JD.o.2.2.2;have:=D2'.o;omega
      case rel=>exact⟨yd,rfl,⟨S2.o.1,S2.o.2.1⟩,by rw[JD.o.2.1,S2.o.2.2],B5.o,Nat.le_refl _⟩
     ·have q1:(y == z)=false:=beq_eq_false_iff_ne.2 q;have E:=zaa (HX.o q);have B5:=zaa (zab K1.o BX.o K1.o.size);clear q HX HY HZ;go_wp2
      go_roundg (ps.length-(k+1))
      case measure=>omega
      case rel=>exact⟨k+1,by omega,rfl,by go_num,B5.o,E.o⟩
    ·obtain rfl:k=ps.length:=by omega
     have E:Hid (ev=false):=by
      unfold Hid;have un:=yaee (fun j h=>K.o.2 j h h)
      have z0:z=0:=Classical.byContradiction fun n=>by have:=(S1.o n).1;omega
      rw[EV.o,JD.o.2.1];exact S0.o z0
     clear K;obtain rfl:=E.o;go_wp2
     try rw[Exit.noGoto_ret]
     go_ret2;exact⟨rfl,KW.o⟩
end Go.Proofs.YtfagbapgnocjiaaGreatDoor
