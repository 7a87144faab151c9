import Derived.Test.YtfagbapgnocjiaaGreatDoorZAH
import Derived.Test.YtfagbapgnocjiaaGreatDoorZAI
import Derived.Test.YtfagbapgnocjiaaGreatDoorZAZ
set_option maxRecDepth 100000
set_option maxHeartbeats 2000000
namespace Go.Proofs.YtfagbapgnocjiaaGreatDoor
open Go.RowKit
def inos(ps:List Ino):List Value:=ps.flatMap Ino.cs
theorem Ino.cs_len(x:Ino):x.cs.length=11:=rfl
theorem zdm(ps:List Ino)(k i:Nat)(h:k<ps.length)(hi:i<11):(inos ps)[k*11+i]?=ps[k].cs[i]?:=(zbe _ 11 Ino.cs_len ps k i h hi).trans (by rw[List.getElem?_eq_getElem (show i<ps[k].cs.length by rw[Ino.cs_len];exact hi)])
def RdN(w:World)(v:Value)(ps:List Ino):Prop:=Rd w 11 v ps.length (inos ps)
theorem RdN.shape{w:World}{v:Value}{ps:List Ino}(h:RdN w v ps):∃ ao cap,v=.slice ao ps.length cap/\ps.length<=cap/\(0<ps.length->∃ b o,ao=some ⟨b,o,none⟩/\b<w.heap.size /\
  ∀ k (h:k<ps.length),w.cell? ⟨b,o+k*11,none⟩=some (.I ps[k].kind)/\w.cell? ⟨b,o+k*11+1,none⟩=some (.I ps[k].size)/\w.cell? ⟨b,o+k*11+2,none⟩=some (.I ps[k].links)/\w.cell? ⟨b,o+k*11+3,none⟩=some (.I ps[k].m0)/\w.cell? ⟨b,o+k*11+4,none⟩=some (.I ps[k].m1)/\w.cell? ⟨b,o+k*11+5,none⟩=some (.I ps[k].m2)/\w.cell? ⟨b,o+k*11+6,none⟩=some (.I ps[k].m3)/\w.cell? ⟨b,o+k*11+7,none⟩=some (.I ps[k].m4)/\w.cell? ⟨b,o+k*11+8,none⟩=some (.I ps[k].m5)/\w.cell? ⟨b,o+k*11+9,none⟩=some (.I ps[k].m6)/\w.cell? ⟨b,o+k*11+10,none⟩=some (.I ps[k].m7)):=by
 obtain⟨_,ao,cap,rfl,h2,h3⟩:=h;refine⟨ao,cap,rfl,h2.1,fun hn=>?_⟩;obtain⟨b,o,rfl,hb,hc⟩:=h3 hn;exact⟨b,o,rfl,hb,fun k hk=>⟨(hc (k*11) (by omega)).trans (zdm ps k 0 hk (by omega)),(hc (k*11+1) (by omega)).trans (zdm ps k 1 hk (by omega)),(hc (k*11+2) (by omega)).trans (zdm ps k 2 hk (by omega)),(hc (k*11+3) (by omega)).trans (zdm ps k 3 hk (by omega)),(hc (k*11+4) (by omega)).trans (zdm ps k 4 hk (by omega)),(hc (k*11+5) (by omega)).trans (zdm ps k 5 hk (by omega)),(hc (k*11+6) (by omega)).trans (zdm ps k 6 hk (by omega)),(hc (k*11+7) (by omega)).trans (zdm ps k 7 hk (by omega)),(hc (k*11+8) (by omega)).trans (zdm ps k 8 hk (by omega)),(hc (k*11+9) (by omega)).trans (zdm ps k 9 hk (by omega)),(hc (k*11+10) (by omega)).trans (zdm ps k 10 hk (by omega))⟩⟩
theorem yape:(Tryz.prog.info? 41).map (fun i=>(i.zero,i.size,i.bytes))=some (some (.agg #[.I 0,.I 0,.I 0,.I 0,.I 0,.I 0,.I 0,.I 0,.I 0,.I 0,.I 0]),11,88):=by kernel_rfl
def RdIm(w:World)(v:Value)(ws:List Ino)(ps:List Den):Prop:=∃ vW vP,v=.agg #[vW,vP]/\RdN w vW ws/\RdD w vP ps
def RowIm(w:World)(lo hi:Nat)(v:Value)(ws:List Ino)(ps:List Den):Prop:=∃ vW vP,v=.agg #[vW,vP]/\Row w 41 11 lo hi vW ws.length (inos ws)/\Row w 52 3 lo hi vP ps.length (dens ps)
theorem RowIm.rd{w:World}{lo hi:Nat}{v:Value}{ws:List Ino}{ps:List Den}(h:RowIm w lo hi v ws ps):RdIm w v ws ps:=by
 obtain⟨vW,vP,rfl,h1,h2⟩:=h;exact⟨vW,vP,rfl,h1.rd,h2.rd⟩
theorem RdIm.below{w w':World}{v:Value}{ws:List Ino}{ps:List Den}(h:RdIm w v ws ps)(hb:zB w w'):RdIm w' v ws ps:=by
 obtain⟨vW,vP,rfl,h1,h2⟩:=h;exact⟨vW,vP,rfl,Rd.below h1 hb,Rd.below h2 hb⟩
theorem RowIm.below{w w':World}{lo hi:Nat}{v:Value}{ws:List Ino}{ps:List Den}(h:RowIm w lo hi v ws ps){B:Nat}(hb:Below B w w')(hB:hi<=B):RowIm w' lo hi v ws ps:=by
 obtain⟨vW,vP,rfl,h1,h2⟩:=h;exact⟨vW,vP,rfl,h1.below hb hB,h2.below hb hB⟩
def zgv(zs:List Int)(n:Int):Bool:=zs.contains n
theorem yaez{zs:List Int}{n:Int}(h:∀ j (h:j<zs.length),¬ zs[j]=n):zgv zs n=false:=by
 unfold zgv;rw[List.contains_eq_any_beq,List.any_eq_false];intro z hz;obtain⟨j,hj,rfl⟩:=List.getElem_of_mem hz;simp only[beq_iff_eq]
 exact fun e=>h j hj e.symm
theorem zju(v:Value)(zs:List Int)(n:Int)(w:World)(h:RdI w v zs)(hn:zs.length<=1048576) :
  zC 93 #[v,.I n] w fun e w'=>e=.returned (.bool (zgv zs n))/\w'=w:=by
 obtain⟨aZ,cZ,rfl,_,hcZ⟩:=h.shape;have HZ:=zaa hcZ;clear h hcZ;go_enter Tryz.func93,Tryz.ntmps93;go_wp2
 go_loop [5] (fun i=>∃ k:Nat,k<=zs.length/\i=.I k/\Hid (∀ j (h:j<zs.length),j<k->¬ zs[j]=n)) (fun i=>zs.length-(intOf i).toNat)
 case atStart=>exact⟨0,by omega,rfl,fun j h a=>absurd a (by omega)⟩
 case round =>
  obtain⟨k,hk,rfl,H⟩:=hrel
  by_cases hlt:k<zs.length
  ·obtain⟨b,o,rfl,hbl,hcell⟩:=HZ.o (by omega);have d0:=hcell k hlt
   have k0:(0:Int)<=(k:Int):=by omega
   have k1:(k:Int)<(zs.length:Int):=by omega
   have HY:=zaa (fun e:zs[k]=n=>show zgv zs n=true by unfold zgv;rw[<- e];exact List.contains_iff_mem.2 (List.getElem_mem hlt))
   have HX:=zaa (fun(e:¬ zs[k]=n) j (h:j<zs.length) (a:j<k+1)=>show ¬ zs[j]=n by
    by_cases q:j=k
    ·subst q;exact e
    ·exact H.o j h (by omega))
   clear hcell;generalize zs[k]=z at *
   by_cases q:z=n
   ·have q1:(z == n)=true:=beq_iff_eq.2 q;have E:=zaa (HY.o q);clear q HX HY;go_wp2;go_ret;exact⟨zah E.o.symm,rfl⟩
   ·have q1:(z == n)=false:=beq_eq_false_iff_ne.2 q;have E:=zaa (HX.o q);clear q HX HY;go_wp2
    go_round
    case rel=>exact⟨k+1,by omega,by go_num,E⟩
    case measure=>simp[intOf];omega
  ·obtain rfl:k=zs.length:=by omega
   have E:=zaa (yaez (fun j h=>H.o j h h));go_wp2;go_ret;exact⟨zah E.o.symm,rfl⟩
theorem zpv(b:Bool)(w:World):zC 90 #[.bool b] w fun e w'=>e=.returned (.I (if b=true then 1 else 0))/\w'=w:=by
 cases b
 all_goals
  go_enter Tryz.func90,Tryz.ntmps90;go_wp2;go_ret;exact⟨rfl,rfl⟩
def upD(ds:List Den)(c:Int):Int:=((ds.find? fun x=>x.child == c).map Den.dir).getD (-1)
theorem yaee{ds:List Den}{c:Int}(h:∀ j (h:j<ds.length),¬ ds[j].child=c):upD ds c=-1:=by
 unfold upD;rw[List.find?_eq_none.2]
 ·rfl
 ·intro x hx;obtain⟨j,hj,rfl⟩:=List.getElem_of_mem hx;simp only[beq_iff_eq];exact h j hj
theorem zqp{ds:List Den}{c:Int}{k:Nat}(hk:k<ds.length)(h:∀ j (h:j<ds.length),j<k->¬ ds[j].child=c)(e:ds[k].child=c):upD ds c=ds[k].dir:=by
 unfold upD
 have:ds.find? (fun x=>x.child == c)=some ds[k]:=List.find?_eq_some_iff_getElem.2 ⟨beq_iff_eq.2 e,k,hk,rfl,fun j hj=>by
  have:=h j (by omega) hj
  simp[this]⟩
 rw[this];rfl
theorem ztu(v:Value)(ws:List Ino)(ps:List Den)(c:Int)(w:World)(h:RdIm w v ws ps)(hn:ps.length<=1048576) :
  zC 129 #[v,.I c] w fun e w'=>e=.returned (.I (upD ps c))/\zB w w':=by
 obtain⟨vW,vP,rfl,h1,h2⟩:=h;obtain⟨aW,cW,rfl,_⟩:=h1.shape;obtain⟨aP,cP,rfl,_,hcP⟩:=h2.shape;have HZ:=zaa hcP;clear h1 h2 hcP
 obtain⟨W,hW⟩:=zE (w.alloc (.cells #[.slice aW ws.length cW,.slice aP ps.length cP] 26))
 have CA:Hid (∀ w',zB W w'->w'.cell? ⟨w.heap.size,1,none⟩=some (.slice aP ps.length cP)):=fun w' hb=>by
  have:w'.heap[w.heap.size]?=some (.cells #[.slice aW ws.length cW,.slice aP ps.length cP] 26 (0,0)):=(hb.block _ (by rw[hW];simp)).trans (by rw[hW];exact zai rfl);exact(zad this).2.1
 have BW:Hid (zB w W):=by rw[hW];exact zR.alloc zL _
 have hz:w.heap.size<=W.heap.size:=BW.o.size;go_enter Tryz.func129,Tryz.ntmps129;go_wp2;rw[<- hW];clear hW
 go_loopw [5] (fun i wr=>∃ k:Nat,k<=ps.length/\i=.I k/\Hid (zB W wr/\∀ j (h:j<ps.length),j<k->¬ ps[j].child=c)) (fun i _=>ps.length-(intOf i).toNat)
 case atStart=>exact⟨0,by omega,rfl,zR,fun j h a=>absurd a (by omega)⟩
 case round =>
  obtain⟨k,hk,rfl,J⟩:=hrel;have x1:=CA.o wr J.o.1
  by_cases hlt:k<ps.length
  ·obtain⟨b,o,rfl,hbl,hcell⟩:=HZ.o (by omega);have BR:=zab BW.o J.o.1 hz;obtain⟨c0,c1,c2⟩:=hcell k hlt;have d0:=(BR.cell (p:=⟨b,o+k*3,none⟩) hbl).trans c0;have d2:=(BR.cell (p:=⟨b,o+k*3+2,none⟩) hbl).trans c2;have B:=zaa BR
   have k0:(0:Int)<=(k:Int):=by omega
   have k1:(k:Int)<(ps.length:Int):=by omega
   have HY:=zaa (fun e:ps[k].child=c=>zqp hlt J.o.2 e)
   have HX:=zaa (fun(e:¬ ps[k].child=c) j (h:j<ps.length) (a:j<k+1)=>show ¬ ps[j].child=c by
    by_cases q:j=k
    ·subst q;exact e
    ·exact J.o.2 j h (by omega))
   clear hcell c0 c1 c2 BR;generalize ps[k].child=z at *;generalize ps[k].dir=y at *
   by_cases q:z=c
   ·have q1:(z == c)=true:=beq_iff_eq.2 q;have E:=zaa (HY.o q);clear q HX HY;go_wp2;go_ret;exact⟨zcx E.o.symm,B.o⟩
   ·have q1:(z == c)=false:=beq_eq_false_iff_ne.2 q
    have E:Hid (zB W wr/\∀ j (h:j<ps.length),j<k+1->¬ ps[j].child=c):=⟨J.o.1,HX.o q⟩
    clear q HX HY;go_wp2
    go_roundw
    case rel=>exact⟨k+1,by omega,by go_num,E⟩
    case measure=>simp[intOf];omega
  ·obtain rfl:k=ps.length:=by omega
   have E:=zaa (yaee (fun j h=>J.o.2 j h h));go_wp2;go_ret;exact⟨zcx E.o.symm,zab BW.o J.o.1 hz⟩
def zcg(ds:List Den):Nat->Int->Bool
 | 0,_=>false
 | n+1,d=>if d=0 then true else if upD ds d<0 then false else zcg ds n (upD ds d)
theorem ztt(v:Value)(ws:List Ino)(ps:List Den)(c:Int)(w:World)(h:RdIm w v ws ps)(hn:ps.length<=1048576) :
  zC 91 #[v,.I c] w fun e w'=>e=.returned (.bool (zcg ps 16 c))/\zB w w':=by
 have HR:=zaa h;obtain⟨vW,vP,rfl,h1,h2⟩:=h;obtain⟨aW,cW,rfl,_⟩:=h1.shape;obtain⟨aP,cP,rfl,_,hcP⟩:=h2.shape;clear h1 h2 hcP
 obtain⟨W,hW⟩:=zE (w.alloc (.cells #[.slice aW ws.length cW,.slice aP ps.length cP] 26))
 have CA:Hid (∀ w',zB W w'->w'.cell? ⟨w.heap.size,0,none⟩=some (.slice aW ws.length cW)/\w'.cell? ⟨w.heap.size,1,none⟩=some (.slice aP ps.length cP)):=fun w' hb=>by
  have:w'.heap[w.heap.size]?=some (.cells #[.slice aW ws.length cW,.slice aP ps.length cP] 26 (0,0)):=(hb.block _ (by rw[hW];simp)).trans (by rw[hW];exact zai rfl);exact⟨(zad this).1,(zad this).2.1⟩
 have BW:Hid (zB w W):=by rw[hW];exact zR.alloc zL _
 have hz:w.heap.size<=W.heap.size:=BW.o.size;have LU:=zaa (fun d w1 h=>ztu (.agg #[.slice aW ws.length cW,.slice aP ps.length cP]) ws ps d w1 h hn);go_enter Tryz.func91,Tryz.ntmps91;go_wp2;rw[<- hW];clear hW
 go_loopw [1,5] (fun d i wr=>∃ (k:Nat) (z:Int),k<=16/\i=.I k/\d=.I z/\Hid (zB W wr/\zcg ps 16 c=zcg ps (16-k) z)) (fun _ i _=>16-(intOf i).toNat)
 case atStart=>exact⟨0,c,by omega,rfl,rfl,zR,rfl⟩
 case round =>
  obtain⟨k,z,hk,rfl,rfl,J⟩:=hrel;obtain⟨x0,x1⟩:=CA.o wr J.o.1
  by_cases hlt:k<16
  ·have ES:=zaa (show zcg ps (16-k) z=if z=0 then true else if upD ps z<0 then false else zcg ps (16-(k+1)) (upD ps z) by
    rw[show 16-k=(16-(k+1))+1 by omega];rfl)
   have B:=zaa (zab BW.o J.o.1 hz)
   by_cases q:z=0
   ·subst q;have E:=zaa (show zcg ps 16 c=true by rw[J.o.2,ES.o,if_pos rfl]);go_wp2;go_ret;exact⟨zah E.o.symm,B.o⟩
   ·have q1:(z == 0)=false:=beq_eq_false_iff_ne.2 q;have R:=zaa (HR.o.below B.o)
    by_cases r:upD ps z<0
    ·have E:=zaa (show zcg ps 16 c=false by rw[J.o.2,ES.o,if_neg q,if_pos r]);go_wp2_with fail;refine(LU.o _ _ R.o).mono ?_;rintro e w1 ⟨rfl,hb1⟩;have B1:=zaa (zab B.o hb1 B.o.size);clear hb1;go_wp2;go_ret;exact⟨zah E.o.symm,B1.o⟩
    ·have E:=zaa (show zcg ps 16 c=zcg ps (16-(k+1)) (upD ps z) by rw[J.o.2,ES.o,if_neg q,if_neg r]);go_wp2_with fail;refine(LU.o _ _ R.o).mono ?_;rintro e w1 ⟨rfl,hb1⟩;have B1:=zaa (zab J.o.1 hb1 J.o.1.size);clear hb1;go_wp2
     go_roundw
     case rel=>exact⟨k+1,_,by omega,by go_num,rfl,B1.o,E.o⟩
     case measure=>simp[intOf];omega
  ·obtain rfl:k=16:=by omega
   have E:=zaa (show zcg ps 16 c=false by rw[J.o.2];rfl);go_wp2;go_ret;exact⟨zah E.o.symm,zab BW.o J.o.1 hz⟩
theorem yasx{zs:List Int}{n:Int}{k:Nat}(hk:k<zs.length)(h:n=zs[k]):zgv zs n=true:=by
 unfold zgv;rw[List.contains_eq_any_beq,List.any_eq_true];exact⟨zs[k],List.getElem_mem _,by rw[h];simp⟩
theorem zui(v:Value)(zs:List Int)(n:Int)(w:World)(h:RdI w v zs)(hn:zs.length<=1048576) :
  zC 122 #[v,.I n] w fun e w'=>∃ r:Int,e=.returned (.I r)/\(decide (0<=r)=zgv zs n)/\w'=w:=by
 obtain⟨aZ,cZ,rfl,_,hcZ⟩:=h.shape;have HZ:=zaa hcZ;clear h hcZ;go_enter Tryz.func122,Tryz.ntmps122;go_wp2
 go_loop [5,8] (fun _ i=>∃ k:Nat,k<=zs.length/\i=.I k/\Hid (∀ j (h:j<zs.length),j<k->¬ zs[j]=n)) (fun _ i=>zs.length-(intOf i).toNat)
 case atStart=>exact⟨0,by omega,rfl,fun j h a=>absurd a (by omega)⟩
 case round =>
  obtain⟨k,hk,rfl,H⟩:=hrel
  by_cases hlt:k<zs.length
  ·obtain⟨b,o,rfl,hbl,hcell⟩:=HZ.o (by omega);have hck:=hcell k hlt;clear hcell
   by_cases q:n=zs[k]
   ·have q':(n == zs[k])=true:=by rw[beq_iff_eq];exact q
    have E:=zaa (yasx hlt q);clear q H;generalize zs[k]=z at *;go_wp2;go_ret;exact⟨_,rfl,by rw[E.o];exact decide_eq_true (by omega),rfl⟩
   ·have q':(n == zs[k])=false:=by rw[beq_eq_false_iff_ne];exact q
    have H':Hid (∀ j (h:j<zs.length),j<k+1->¬ zs[j]=n):=fun j h a=>by
     by_cases e:j=k
     ·subst e;exact fun e=>q e.symm
     ·exact H.o j h (by omega)
    clear q H;generalize zs[k]=z at hck q';go_wp2
    go_round
    case rel=>exact⟨k+1,by omega,by go_num,H'⟩
    case measure=>simp[intOf];omega
  ·have E:=zaa (yaez (fun j h=>H.o j h (by omega)));clear H;go_wp2;go_ret;exact⟨_,rfl,by rw[E.o];rfl,rfl⟩
theorem zgz(v:Value)(zs:List Int)(n:Int)(w:World)(h:RdI w v zs)(hn:zs.length<=1048576) :
  zC 75 #[v,.I n] w fun e w'=>e=.returned (.bool (zgv zs n))/\w'=w:=by
 have HZ:=zaa h;obtain⟨aZ,cZ,rfl,_,_⟩:=h.shape;clear h;go_enter Tryz.func75,Tryz.ntmps75;go_wp2_with fail;refine(zui _ zs n _ HZ.o hn).mono ?_;rintro e w' ⟨r,rfl,hr,hw'⟩;subst w';have R:=zaa hr;clear hr;go_wp2;go_ret;exact⟨zah R.o,rfl⟩
theorem Rd.take{w:World}{size:Nat}{ao:Option Addr}{n c:Nat}{xs:List Value}{m:Nat}(h:Rd w size (.slice ao n c) n xs)(hm:m<=n):Rd w size (.slice ao m c) m (xs.take (m*size)):=by
 obtain⟨h1,ao',cap,e,h2,h3⟩:=h
 cases e
 have hms:m*size<=n*size:=Nat.mul_le_mul_right _ hm;refine⟨by rw[List.length_take,h1];omega,ao,c,rfl,⟨by omega,h2.2⟩,fun hp=>?_⟩;obtain⟨b,o,e1,e2,e3⟩:=h3 (by omega);exact⟨b,o,e1,e2,fun j hj=>by rw[e3 j (by omega),List.getElem?_take,if_pos hj]⟩
theorem RdI.take{w:World}{ao:Option Addr}{c:Nat}{zs:List Int}{m:Nat}(h:RdI w (.slice ao zs.length c) zs)(hm:m<=zs.length):RdI w (.slice ao m c) (zs.take m):=by
 have:=Rd.take h hm;unfold RdI
 have e:(zs.take m).length=m:=by rw[List.length_take];omega
 have e2:zeh (zs.take m)=(zeh zs).take (m*1):=by rw[Nat.mul_one];simp[zeh,List.map_take]
 rw[e,e2];exact this
def zfe(zs:List Int):Bool:=decide (∀ k (h:k<zs.length),zgv (zs.take k) zs[k]=false)
theorem zzi{zs:List Int}(h:∀ k (h:k<zs.length),zgv (zs.take k) zs[k]=false):zfe zs=true:=decide_eq_true h
theorem zva{zs:List Int}{k:Nat}(hk:k<zs.length)(h:zgv (zs.take k) zs[k]=true):zfe zs=false:=decide_eq_false (fun x=>by have:=x k hk;rw[h]at this;cases this)
theorem zlb(v:Value)(zs:List Int)(w:World)(h:RdI w v zs)(hn:zs.length<=1048576) :
  zC 40 #[v] w fun e w'=>e=.returned (.bool (zfe zs))/\w'=w:=by
 have HR:=zaa h;obtain⟨aZ,cZ,rfl,hcap,hcZ⟩:=h.shape;have HZ:=zaa hcZ;clear h hcZ;go_enter Tryz.func40,Tryz.ntmps40;go_wp2
 go_loop [3,4,7] (fun _ _ i=>∃ k:Nat,k<=zs.length/\i=.I k/\Hid (∀ j (h:j<zs.length),j<k->zgv (zs.take j) zs[j]=false)) (fun _ _ i=>zs.length-(intOf i).toNat)
 case atStart=>exact⟨0,by omega,rfl,fun j h a=>absurd a (by omega)⟩
 case round =>
  obtain⟨k,hk,rfl,H⟩:=hrel
  by_cases hlt:k<zs.length
  ·obtain⟨b,o,rfl,hbl,hcell⟩:=HZ.o (by omega);have hck:=hcell k hlt;have RT:=zaa (RdI.take HR.o hk);have LT:=zaa (show(zs.take k).length<=1048576 by rw[List.length_take];omega);clear hcell
   cases q:zgv (zs.take k) zs[k] with
   | false =>
    have H':Hid (∀ j (h:j<zs.length),j<k+1->zgv (zs.take j) zs[j]=false):=fun j h a=>by
     by_cases e:j=k
     ·subst e;exact q
     ·exact H.o j h (by omega)
    have Q:=zaa q;clear q H;generalize zs[k]=z at hck Q;go_wp2_with (go_at_call 75;refine(zgz _ (zs.take k) z _ RT.o LT.o).mono ?_;rw[Q.o];rintro e w' ⟨rfl,rfl⟩)
    go_round
    case rel=>exact⟨k+1,by omega,by go_num,H'⟩
    case measure=>simp[intOf];omega
   | true =>
    have E:=zaa (zva hlt q);have Q:=zaa q;clear q H;generalize zs[k]=z at hck Q;go_wp2_with (go_at_call 75;refine(zgz _ (zs.take k) z _ RT.o LT.o).mono ?_;rw[Q.o];rintro e w' ⟨rfl,rfl⟩);go_ret;exact⟨zah E.o.symm,rfl⟩
  ·have E:=zaa (zzi (fun j h=>H.o j h (by omega)));clear H;go_wp2;go_ret;exact⟨zah E.o.symm,rfl⟩
def doW(m:Mi)(ws:List Int)(ps:List St):List Int:=if m.kind=3 then zmc ws ps else ws
def doP(m:Mi)(ps:List St):List St:=if m.kind=1 then ps++[⟨m.at_,m.val,false⟩]else if m.kind=2 then ps.map (fl1 m.at_)else if m.kind=3 then zkr ps else ps
def doE(m:Mi)(es:List Int)(qs:List Se):List Int:=if m.kind=5 then zwk es qs else es
def doQ(m:Mi)(qs:List Se):List Se:=if m.kind=4 then qs++[⟨m.at_,m.val⟩]else if m.kind=5 then[]else qs
theorem Rd.boxless{w w':World}{size:Nat}{v:Value}{n:Nat}{xs:List Value}{b:Nat}{cs:Array Value}{t:TypeId}{fr:Nat×Nat}(h:Rd w size v n xs)(h0:0<n*size->∃ z,xs[0]?=some (.I z))(hb:w.heap[b]?=some (.cells cs t fr))(hcs:∀ (o:Nat) (z:Int),¬ cs[o]?=some (.I z))(hz:w.heap.size<=w'.heap.size)(ho:∀ j,j<w.heap.size->¬ j=b->w'.heap[j]?=w.heap[j]?):Rd w' size v n xs:=by
 by_cases hn:0<n*size
 ·refine h.same hz (fun j hj he=>ho j hj (fun e=>?_));subst e;obtain⟨hl,ao,cap,rfl,_,hc⟩:=h
  have hn':0<n:=by
   rcases Nat.eq_zero_or_pos n with e | e
   ·subst e;simp at hn
   ·exact e
  obtain⟨b',o,rfl,_,hc⟩:=hc hn';simp only[Value.ownBlock,Option.some.injEq]at he;subst he;obtain⟨z,e⟩:=h0 hn;have:=hc 0 hn;rw[e]at this;simp only[World.cell?,hb]at this;exact hcs o z (by simpa using this)
 ·obtain⟨h3,ao,cap,rfl,h4,h5⟩:=h;refine⟨h3,ao,cap,rfl,h4,fun hp=>?_⟩;obtain⟨b',o,e,hlt,hc⟩:=h5 hp;exact⟨b',o,e,by omega,fun j hj=>absurd (Nat.lt_of_le_of_lt (Nat.zero_le _) hj) hn⟩
theorem RdI.boxless{w w':World}{v:Value}{zs:List Int}{b:Nat}{cs:Array Value}{t:TypeId}{fr:Nat×Nat}(h:RdI w v zs)(hb:w.heap[b]?=some (.cells cs t fr))(hcs:∀ (o:Nat) (z:Int),¬ cs[o]?=some (.I z))(hz:w.heap.size<=w'.heap.size)(ho:∀ j,j<w.heap.size->¬ j=b->w'.heap[j]?=w.heap[j]?):RdI w' v zs :=
 Rd.boxless h (fun hn=>⟨zs[0]'(by simpa using hn),zen zs 0 (by simpa using hn)⟩) hb hcs hz ho
theorem RdPm.boxless{w w':World}{v:Value}{ws:List Int}{ps:List St}{b:Nat}{cs:Array Value}{t:TypeId}{fr:Nat×Nat}(h:RdPm w v ws ps)(hb:w.heap[b]?=some (.cells cs t fr))(hcs:∀ (o:Nat) (z:Int),¬ cs[o]?=some (.I z))(hz:w.heap.size<=w'.heap.size)(ho:∀ j,j<w.heap.size->¬ j=b->w'.heap[j]?=w.heap[j]?):RdPm w' v ws ps:=by
 obtain⟨vW,vP,rfl,h1,h2⟩:=h;refine⟨vW,vP,rfl,RdI.boxless h1 hb hcs hz ho,Rd.boxless h2 (fun hn=>?_) hb hcs hz ho⟩
 have hl:0<ps.length:=by omega
 have:=znn ps 0 hl;rw[Nat.zero_mul]at this;exact⟨_,this⟩
theorem RdBlk.boxless{w w':World}{v:Value}{ws:List Int}{ps:List Se}{b:Nat}{cs:Array Value}{t:TypeId}{fr:Nat×Nat}(h:RdBlk w v ws ps)(hb:w.heap[b]?=some (.cells cs t fr))(hcs:∀ (o:Nat) (z:Int),¬ cs[o]?=some (.I z))(hz:w.heap.size<=w'.heap.size)(ho:∀ j,j<w.heap.size->¬ j=b->w'.heap[j]?=w.heap[j]?):RdBlk w' v ws ps:=by
 obtain⟨vW,vP,rfl,h1,h2⟩:=h;refine⟨vW,vP,rfl,RdI.boxless h1 hb hcs hz ho,Rd.boxless h2 (fun hn=>?_) hb hcs hz ho⟩
 have hl:0<ps.length:=by omega
 have:=zrx ps 0 hl;rw[Nat.zero_mul]at this;exact⟨_,this⟩
theorem zda{a b c d:Value}(ha:∀ z,¬ a=.I z)(hb:∀ z,¬ b=.I z)(hc:∀ z,¬ c=.I z)(hd:∀ z,¬ d=.I z):∀ (o:Nat) (z:Int),¬ (#[a,b,c,d]:Array Value)[o]?=some (.I z):=fun o z e=>by
 match o with
 | 0=>simp at e;exact ha z e
 | 1=>simp at e;exact hb z e
 | 2=>simp at e;exact hc z e
 | 3=>simp at e;exact hd z e
 | o+4=>simp at e
theorem zae(a:Option Addr)(n c:Nat)(z:Int):¬ Value.slice a n c=.I z:=fun e=>by cases e
def putD(w:World)(bD bR i j:Nat)(x y a b c d:Value):World:=(((((w.setCell ⟨bD,i,none⟩ x).setCell ⟨bD,j,none⟩ y).setCell ⟨bR,0,none⟩ a).setCell ⟨bR,1,none⟩ b).setCell ⟨bR,2,none⟩ c).setCell ⟨bR,3,none⟩ d
theorem zvq(w:World)(bD bR i j:Nat)(x y a b c d:Value):(putD w bD bR i j x y a b c d).heap.size=w.heap.size:=by simp[putD,World.setCell]
theorem yabn(w:World)(bD bR i j:Nat)(x y a b c d:Value)(k:Nat)(h1:¬ k=bD)(h2:¬ k=bR):(putD w bD bR i j x y a b c d).heap[k]?=w.heap[k]?:=by
 unfold putD;rw[Below.heap_setCell _ _ _ _ h2,Below.heap_setCell _ _ _ _ h2,Below.heap_setCell _ _ _ _ h2,Below.heap_setCell _ _ _ _ h2,Below.heap_setCell _ _ _ _ h1,Below.heap_setCell _ _ _ _ h1]
theorem Rd.put{w:World}{size:Nat}{v:Value}{n:Nat}{xs:List Value}{bD bR i j:Nat}{x y a b c d:Value}{cs cs':Array Value}{t t':TypeId}{fr fr':Nat×Nat}(h:Rd w size v n xs)(h0:0<n*size->∃ z,xs[0]?=some (.I z))(hD:w.heap[bD]?=some (.cells cs t fr))(hcs:∀ (o:Nat) (z:Int),¬ cs[o]?=some (.I z))(hR:w.heap[bR]?=some (.cells cs' t' fr'))(hcs':∀ (o:Nat) (z:Int),¬ cs'[o]?=some (.I z)):Rd (putD w bD bR i j x y a b c d) size v n xs:=by
 by_cases e:v.ownBlock=some bD\/v.ownBlock=some bR
 ·obtain⟨h3,ao,cap,rfl,h4,h5⟩:=h;refine⟨h3,ao,cap,rfl,h4,fun hp=>?_⟩;obtain⟨b',o,rfl,hlt,hc⟩:=h5 hp;refine⟨b',o,rfl,by rw[zvq];exact hlt,fun k hk=>?_⟩;exfalso;obtain⟨z,ez⟩:=h0 (Nat.lt_of_le_of_lt (Nat.zero_le _) hk);have:=hc 0 (Nat.lt_of_le_of_lt (Nat.zero_le _) hk);rw[ez]at this;simp only[Value.ownBlock,Option.some.injEq]at e
  rcases e with rfl|rfl
  ·simp only[World.cell?,hD]at this;exact hcs o z (by simpa using this)
  ·simp only[World.cell?,hR]at this;exact hcs' o z (by simpa using this)
 ·refine h.same (Nat.le_of_eq (zvq ..).symm) (fun k _ he=>yabn _ _ _ _ _ _ _ _ _ _ _ k (fun x=>?_) (fun x=>?_))
  ·subst x;exact e (.inl he)
  ·subst x;exact e (.inr he)
theorem RdI.put{w:World}{v:Value}{zs:List Int}{bD bR i j:Nat}{x y a b c d:Value}{cs cs':Array Value}{t t':TypeId}{fr fr':Nat×Nat}(h:RdI w v zs)(hD:w.heap[bD]?=some (.cells cs t fr))(hcs:∀ (o:Nat) (z:Int),¬ cs[o]?=some (.I z))(hR:w.heap[bR]?=some (.cells cs' t' fr'))(hcs':∀ (o:Nat) (z:Int),¬ cs'[o]?=some (.I z)):RdI (putD w bD bR i j x y a b c d) v zs :=
 Rd.put h (fun hn=>⟨zs[0]'(by simpa using hn),zen zs 0 (by simpa using hn)⟩) hD hcs hR hcs'
theorem RdPm.put{w:World}{v:Value}{ws:List Int}{ps:List St}{bD bR i j:Nat}{x y a b c d:Value}{cs cs':Array Value}{t t':TypeId}{fr fr':Nat×Nat}(h:RdPm w v ws ps)(hD:w.heap[bD]?=some (.cells cs t fr))(hcs:∀ (o:Nat) (z:Int),¬ cs[o]?=some (.I z))(hR:w.heap[bR]?=some (.cells cs' t' fr'))(hcs':∀ (o:Nat) (z:Int),¬ cs'[o]?=some (.I z)):RdPm (putD w bD bR i j x y a b c d) v ws ps:=by
 obtain⟨vW,vP,rfl,h1,h2⟩:=h;refine⟨vW,vP,rfl,RdI.put h1 hD hcs hR hcs',Rd.put h2 (fun hn=>?_) hD hcs hR hcs'⟩;have:=znn ps 0 (by omega);rw[Nat.zero_mul]at this;exact⟨_,this⟩
theorem RdBlk.put{w:World}{v:Value}{ws:List Int}{ps:List Se}{bD bR i j:Nat}{x y a b c d:Value}{cs cs':Array Value}{t t':TypeId}{fr fr':Nat×Nat}(h:RdBlk w v ws ps)(hD:w.heap[bD]?=some (.cells cs t fr))(hcs:∀ (o:Nat) (z:Int),¬ cs[o]?=some (.I z))(hR:w.heap[bR]?=some (.cells cs' t' fr'))(hcs':∀ (o:Nat) (z:Int),¬ cs'[o]?=some (.I z)):RdBlk (putD w bD bR i j x y a b c d) v ws ps:=by
 obtain⟨vW,vP,rfl,h1,h2⟩:=h;refine⟨vW,vP,rfl,RdI.put h1 hD hcs hR hcs',Rd.put h2 (fun hn=>?_) hD hcs hR hcs'⟩;have:=zrx ps 0 (by omega);rw[Nat.zero_mul]at this;exact⟨_,this⟩
theorem zfy{B:Nat}{a0 w:World}(h:Below B a0 w){bD bR:Nat}(h1:B<=bD)(h2:B<=bR)(i j:Nat)(x y a b c d:Value):Below B a0 (putD w bD bR i j x y a b c d):=by
 unfold putD
 repeat (refine Below.setCell ?_ (by simp only;omega) _)
 exact h
def opB(k:Int)(p t:ByteArray)(g x:Int):Bool:=decide ((1<=k/\k<=10)/\p.size<=65536/\t.size<=65536/\(k=4\/k=5\/t.size=0)/\(k=6\/x=0)/\((6<=k/\k<=8)\/g=0))
end Go.Proofs.YtfagbapgnocjiaaGreatDoor
