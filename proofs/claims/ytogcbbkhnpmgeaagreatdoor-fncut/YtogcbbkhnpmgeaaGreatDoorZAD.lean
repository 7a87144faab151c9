import Derived.Test.YtogcbbkhnpmgeaaGreatDoorZAC
set_option maxRecDepth 100000
set_option maxHeartbeats 4000000
namespace Go.Proofs.YtogcbbkhnpmgeaaGreatDoor
open Go.RowKit
def RdIm(w:World)(v:Value)(ws:List Ino)(ps:List Den):Prop:=∃ vW vP,v=.agg #[vW,vP]/\RdN w vW ws/\RdD w vP ps
def RowIm(w:World)(lo hi:Nat)(v:Value)(ws:List Ino)(ps:List Den):Prop:=∃ vW vP,v=.agg #[vW,vP]/\Row w 87 11 lo hi vW ws.length (inos ws)/\Row w 90 3 lo hi vP ps.length (dens ps)
theorem RowIm.rd{w:World}{lo hi:Nat}{v:Value}{ws:List Ino}{ps:List Den}(h:RowIm w lo hi v ws ps):RdIm w v ws ps:=by
 obtain⟨vW,vP,rfl,h1,h2⟩:=h;exact⟨vW,vP,rfl,h1.rd,h2.rd⟩
theorem RdIm.below{w w':World}{v:Value}{ws:List Ino}{ps:List Den}(h:RdIm w v ws ps)(hb:zB w w'):RdIm w' v ws ps:=by
 obtain⟨vW,vP,rfl,h1,h2⟩:=h;exact⟨vW,vP,rfl,Rd.below h1 hb,Rd.below h2 hb⟩
theorem RowIm.below{w w':World}{lo hi:Nat}{v:Value}{ws:List Ino}{ps:List Den}(h:RowIm w lo hi v ws ps){B:Nat}(hb:Below B w w')(hB:hi<=B):RowIm w' lo hi v ws ps:=by
 obtain⟨vW,vP,rfl,h1,h2⟩:=h;exact⟨vW,vP,rfl,h1.below hb hB,h2.below hb hB⟩
def zha(zs:List Int)(n:Int):Bool:=zs.contains n
theorem yahr{zs:List Int}{n:Int}(h:∀ j (h:j<zs.length),¬ zs[j]=n):zha zs n=false:=by
 unfold zha;rw[List.contains_eq_any_beq,List.any_eq_false];intro z hz;obtain⟨j,hj,rfl⟩:=List.getElem_of_mem hz;simp only[beq_iff_eq]
 exact fun e=>h j hj e.symm
theorem zkr(v:Value)(zs:List Int)(n:Int)(w:World)(h:RdI w v zs)(hn:zs.length<=1048576) :
  zC 159 #[v,.I n] w fun e w'=>e=.returned (.bool (zha zs n))/\w'=w:=by
 obtain⟨aZ,cZ,rfl,_,hcZ⟩:=h.shape;have HZ:=zaa hcZ;clear h hcZ;go_enter Tryz.func159,Tryz.ntmps159;go_wp2
 go_loop [5] (fun i=>∃ k:Nat,k<=zs.length/\i=.I k/\Hid (∀ j (h:j<zs.length),j<k->¬ zs[j]=n)) (fun i=>zs.length-(intOf i).toNat)
 case atStart=>exact⟨0,by omega,rfl,fun j h a=>absurd a (by omega)⟩
 case round =>
  obtain⟨k,hk,rfl,H⟩:=hrel
  by_cases hlt:k<zs.length
  ·obtain⟨b,o,rfl,hbl,hcell⟩:=HZ.o (by omega);have d0:=hcell k hlt
   have k0:(0:Int)<=(k:Int):=by omega
   have k1:(k:Int)<(zs.length:Int):=by omega
   have HY:=zaa (fun e:zs[k]=n=>show zha zs n=true by unfold zha;rw[<- e];exact List.contains_iff_mem.2 (List.getElem_mem hlt))
   have HX:=zaa (fun(e:¬ zs[k]=n) j (h:j<zs.length) (a:j<k+1)=>show ¬ zs[j]=n by
    by_cases q:j=k
    ·subst q;exact e
    ·exact H.o j h (by omega))
   clear hcell;generalize zs[k]=z at *
   by_cases q:z=n
   ·have q1:(z == n)=true:=beq_iff_eq.2 q;have E:=zaa (HY.o q);clear q HX HY;go_wp2;go_ret;exact⟨zag E.o.symm,rfl⟩
   ·have q1:(z == n)=false:=beq_eq_false_iff_ne.2 q;have E:=zaa (HX.o q);clear q HX HY;go_wp2
    go_round
    case rel=>exact⟨k+1,by omega,by go_num,E⟩
    case measure=>simp[intOf];omega
  ·obtain rfl:k=zs.length:=by omega
   have E:=zaa (yahr (fun j h=>H.o j h h));go_wp2;go_ret;exact⟨zag E.o.symm,rfl⟩
theorem zpw(b:Bool)(w:World):zC 156 #[.bool b] w fun e w'=>e=.returned (.I (if b=true then 1 else 0))/\w'=w:=by
 cases b
 all_goals
  go_enter Tryz.func156,Tryz.ntmps156;go_wp2;go_ret;exact⟨rfl,rfl⟩
def upD(ds:List Den)(c:Int):Int:=((ds.find? fun x=>x.child == c).map Den.dir).getD (-1)
theorem yato{ds:List Den}{c:Int}(h:∀ j (h:j<ds.length),¬ ds[j].child=c):upD ds c=-1:=by
 unfold upD;rw[List.find?_eq_none.2]
 ·rfl
 ·intro x hx;obtain⟨j,hj,rfl⟩:=List.getElem_of_mem hx;simp only[beq_iff_eq];exact h j hj
theorem yagf{ds:List Den}{c:Int}{k:Nat}(hk:k<ds.length)(h:∀ j (h:j<ds.length),j<k->¬ ds[j].child=c)(e:ds[k].child=c):upD ds c=ds[k].dir:=by
 unfold upD
 have:ds.find? (fun x=>x.child == c)=some ds[k]:=List.find?_eq_some_iff_getElem.2 ⟨beq_iff_eq.2 e,k,hk,rfl,fun j hj=>by
  have:=h j (by omega) hj
  simp[this]⟩
 rw[this];rfl
theorem zvq(v:Value)(ws:List Ino)(ps:List Den)(c:Int)(w:World)(h:RdIm w v ws ps)(hn:ps.length<=1048576) :
  zC 206 #[v,.I c] w fun e w'=>e=.returned (.I (upD ps c))/\zB w w':=by
 obtain⟨vW,vP,rfl,h1,h2⟩:=h;obtain⟨aW,cW,rfl,_⟩:=h1.shape;obtain⟨aP,cP,rfl,_,hcP⟩:=h2.shape;have HZ:=zaa hcP;clear h1 h2 hcP
 obtain⟨W,hW⟩:=zE (w.alloc (.cells #[.slice aW ws.length cW,.slice aP ps.length cP] 51))
 have CA:Hid (∀ w',zB W w'->w'.cell? ⟨w.heap.size,1,none⟩=some (.slice aP ps.length cP)):=fun w' hb=>by
  have:w'.heap[w.heap.size]?=some (.cells #[.slice aW ws.length cW,.slice aP ps.length cP] 51 (0,0)):=(hb.block _ (by rw[hW];simp)).trans (by rw[hW];exact zah rfl);exact(zac this).2.1
 have BW:Hid (zB w W):=by rw[hW];exact zR.alloc zL _
 have hz:w.heap.size<=W.heap.size:=BW.o.size;go_enter Tryz.func206,Tryz.ntmps206;go_wp2;rw[<- hW];clear hW
 go_loopw [5] (fun i wr=>∃ k:Nat,k<=ps.length/\i=.I k/\Hid (zB W wr/\∀ j (h:j<ps.length),j<k->¬ ps[j].child=c)) (fun i _=>ps.length-(intOf i).toNat)
 case atStart=>exact⟨0,by omega,rfl,zR,fun j h a=>absurd a (by omega)⟩
 case round =>
  obtain⟨k,hk,rfl,J⟩:=hrel;have x1:=CA.o wr J.o.1
  by_cases hlt:k<ps.length
  ·obtain⟨b,o,rfl,hbl,hcell⟩:=HZ.o (by omega);have BR:=zab BW.o J.o.1 hz;obtain⟨c0,c1,c2⟩:=hcell k hlt;have d0:=(BR.cell (p:=⟨b,o+k*3,none⟩) hbl).trans c0;have d2:=(BR.cell (p:=⟨b,o+k*3+2,none⟩) hbl).trans c2;have B:=zaa BR
   have k0:(0:Int)<=(k:Int):=by omega
   have k1:(k:Int)<(ps.length:Int):=by omega
   have HY:=zaa (fun e:ps[k].child=c=>yagf hlt J.o.2 e)
   have HX:=zaa (fun(e:¬ ps[k].child=c) j (h:j<ps.length) (a:j<k+1)=>show ¬ ps[j].child=c by
    by_cases q:j=k
    ·subst q;exact e
    ·exact J.o.2 j h (by omega))
   clear hcell c0 c1 c2 BR;generalize ps[k].child=z at *;generalize ps[k].dir=y at *
   by_cases q:z=c
   ·have q1:(z == c)=true:=beq_iff_eq.2 q;have E:=zaa (HY.o q);clear q HX HY;go_wp2;go_ret;exact⟨zcq E.o.symm,B.o⟩
   ·have q1:(z == c)=false:=beq_eq_false_iff_ne.2 q
    have E:Hid (zB W wr/\∀ j (h:j<ps.length),j<k+1->¬ ps[j].child=c):=⟨J.o.1,HX.o q⟩
    clear q HX HY;go_wp2
    go_roundw
    case rel=>exact⟨k+1,by omega,by go_num,E⟩
    case measure=>simp[intOf];omega
  ·obtain rfl:k=ps.length:=by omega
   have E:=zaa (yato (fun j h=>J.o.2 j h h));go_wp2;go_ret;exact⟨zcq E.o.symm,zab BW.o J.o.1 hz⟩
def zdk(ds:List Den):Nat->Int->Bool
 | 0,_=>false
 | n+1,d=>if d=0 then true else if upD ds d<0 then false else zdk ds n (upD ds d)
theorem zuy(v:Value)(ws:List Ino)(ps:List Den)(c:Int)(w:World)(h:RdIm w v ws ps)(hn:ps.length<=1048576) :
  zC 157 #[v,.I c] w fun e w'=>e=.returned (.bool (zdk ps 16 c))/\zB w w':=by
 have HR:=zaa h;obtain⟨vW,vP,rfl,h1,h2⟩:=h;obtain⟨aW,cW,rfl,_⟩:=h1.shape;obtain⟨aP,cP,rfl,_,hcP⟩:=h2.shape;clear h1 h2 hcP
 obtain⟨W,hW⟩:=zE (w.alloc (.cells #[.slice aW ws.length cW,.slice aP ps.length cP] 51))
 have CA:Hid (∀ w',zB W w'->w'.cell? ⟨w.heap.size,0,none⟩=some (.slice aW ws.length cW)/\w'.cell? ⟨w.heap.size,1,none⟩=some (.slice aP ps.length cP)):=fun w' hb=>by
  have:w'.heap[w.heap.size]?=some (.cells #[.slice aW ws.length cW,.slice aP ps.length cP] 51 (0,0)):=(hb.block _ (by rw[hW];simp)).trans (by rw[hW];exact zah rfl);exact⟨(zac this).1,(zac this).2.1⟩
 have BW:Hid (zB w W):=by rw[hW];exact zR.alloc zL _
 have hz:w.heap.size<=W.heap.size:=BW.o.size;have LU:=zaa (fun d w1 h=>zvq (.agg #[.slice aW ws.length cW,.slice aP ps.length cP]) ws ps d w1 h hn);go_enter Tryz.func157,Tryz.ntmps157;go_wp2;rw[<- hW];clear hW
 go_loopw [1,5] (fun d i wr=>∃ (k:Nat) (z:Int),k<=16/\i=.I k/\d=.I z/\Hid (zB W wr/\zdk ps 16 c=zdk ps (16-k) z)) (fun _ i _=>16-(intOf i).toNat)
 case atStart=>exact⟨0,c,by omega,rfl,rfl,zR,rfl⟩
 case round =>
  obtain⟨k,z,hk,rfl,rfl,J⟩:=hrel;obtain⟨x0,x1⟩:=CA.o wr J.o.1
  by_cases hlt:k<16
  ·have ES:=zaa (show zdk ps (16-k) z=if z=0 then true else if upD ps z<0 then false else zdk ps (16-(k+1)) (upD ps z) by
    rw[show 16-k=(16-(k+1))+1 by omega];rfl)
   have B:=zaa (zab BW.o J.o.1 hz)
   by_cases q:z=0
   ·subst q;have E:=zaa (show zdk ps 16 c=true by rw[J.o.2,ES.o,if_pos rfl]);go_wp2;go_ret;exact⟨zag E.o.symm,B.o⟩
   ·have q1:(z == 0)=false:=beq_eq_false_iff_ne.2 q;have R:=zaa (HR.o.below B.o)
    by_cases r:upD ps z<0
    ·have E:=zaa (show zdk ps 16 c=false by rw[J.o.2,ES.o,if_neg q,if_pos r]);go_wp2_with fail;refine(LU.o _ _ R.o).mono ?_;rintro e w1 ⟨rfl,hb1⟩;have B1:=zaa (zab B.o hb1 B.o.size);clear hb1;go_wp2;go_ret;exact⟨zag E.o.symm,B1.o⟩
    ·have E:=zaa (show zdk ps 16 c=zdk ps (16-(k+1)) (upD ps z) by rw[J.o.2,ES.o,if_neg q,if_neg r]);go_wp2_with fail;refine(LU.o _ _ R.o).mono ?_;rintro e w1 ⟨rfl,hb1⟩;have B1:=zaa (zab J.o.1 hb1 J.o.1.size);clear hb1;go_wp2
     go_roundw
     case rel=>exact⟨k+1,_,by omega,by go_num,rfl,B1.o,E.o⟩
     case measure=>simp[intOf];omega
  ·obtain rfl:k=16:=by omega
   have E:=zaa (show zdk ps 16 c=false by rw[J.o.2];rfl);go_wp2;go_ret;exact⟨zag E.o.symm,zab BW.o J.o.1 hz⟩
def zlm(ds:List Den)(c:Int)(k:Nat):Nat:=((ds.take k).filter fun x=>x.child == c).length
theorem yajd(ds:List Den)(c:Int):zlm ds c 0=0:=rfl
theorem zkh{ds:List Den}{c:Int}{k:Nat}(h:k<ds.length):zlm ds c (k+1)=zlm ds c k+(if (ds[k].child == c)=true then 1 else 0):=by
 unfold zlm;rw[List.take_succ_eq_append_getElem h,List.filter_append,List.length_append]
 congr 1
 cases q:ds[k].child == c<;>simp[List.filter,q]
theorem yagi(ds:List Den)(c:Int)(k:Nat):zlm ds c k<=k:=by
 unfold zlm;exact Nat.le_trans (List.length_filter_le _ _) (by simp;omega)
def zhf(ps:List Den)(i:Nat)(x:Ino):Bool:=decide ((if i=0 then 1 else 0)+(zlm ps i ps.length:Int)=x.links)&&(decide (¬ x.kind=2)||zdk ps 16 i)
def zfv(ws:List Ino)(ps:List Den):Bool:=decide (∀ i (h:i<ws.length),zhf ps i ws[i]=true)
theorem yacr{ws:List Ino}{ps:List Den}{i:Nat}(h:i<ws.length)(q:zhf ps i ws[i]=false):zfv ws ps=false:=decide_eq_false (fun e=>by rw[e i h]at q;cases q)
theorem yaag(w:World):zC 156 #[.bool true] w fun e w'=>e=.returned (.I 1)/\w'=w:=zpw true w
theorem zzn(w:World):zC 156 #[.bool false] w fun e w'=>e=.returned (.I 0)/\w'=w:=zpw false w
theorem zvr(v:Value)(ws:List Ino)(ps:List Den)(w:World)(h:RdIm w v ws ps)(hm:ws.length<=1048576)(hn:ps.length<=1048576) :
  zC 90 #[v] w fun e w'=>e=.returned (.bool (zfv ws ps))/\zB w w':=by
 have HR:=zaa h;obtain⟨vW,vP,rfl,h1,h2⟩:=h;obtain⟨aW,cW,rfl,_,hcW⟩:=h1.shape;obtain⟨aP,cP,rfl,_,hcP⟩:=h2.shape;have HW:=zaa hcW;have HZ:=zaa hcP;clear h1 h2 hcP hcW
 obtain⟨W,hW⟩:=zE (w.alloc (.cells #[.slice aW ws.length cW,.slice aP ps.length cP] 51))
 have CA:Hid (∀ w',zB W w'->w'.cell? ⟨w.heap.size,0,none⟩=some (.slice aW ws.length cW)/\w'.cell? ⟨w.heap.size,1,none⟩=some (.slice aP ps.length cP)):=fun w' hb=>by
  have:w'.heap[w.heap.size]?=some (.cells #[.slice aW ws.length cW,.slice aP ps.length cP] 51 (0,0)):=(hb.block _ (by rw[hW];simp)).trans (by rw[hW];exact zah rfl);exact⟨(zac this).1,(zac this).2.1⟩
 have BW:Hid (zB w W):=by rw[hW];exact zR.alloc zL _
 have hz:w.heap.size<=W.heap.size:=BW.o.size;have LH:=zaa (fun d w1 h=>zuy (.agg #[.slice aW ws.length cW,.slice aP ps.length cP]) ws ps d w1 h hn);go_enter Tryz.func90,Tryz.ntmps90;go_wp2;rw[<- hW];clear hW
 go_loopw [3] (fun i wr=>∃ k:Nat,k<=ws.length/\i=.I k/\Hid (zB W wr/\∀ j (h:j<ws.length),j<k->zhf ps j ws[j]=true)) (fun i _=>ws.length-(intOf i).toNat)
 case atStart=>exact⟨0,by omega,rfl,zR,fun j h a=>absurd a (by omega)⟩
 case round =>
  obtain⟨i,hi,rfl,J⟩:=hrel;obtain⟨x0,x1⟩:=CA.o wr J.o.1
  by_cases hlt:i<ws.length
  ·have i0:(0:Int)<=(i:Int):=by omega
   have i1:(i:Int)<(ws.length:Int):=by omega
   obtain⟨b0,HB,b1,LB⟩:∃ b0:Int,Hid (b0=if i=0 then 1 else 0)/\(0<=b0/\b0<=1)/\Hid (∀ w1:World,zC 156 #[.bool ((i:Int) == 0)] w1 fun e w'=>e=.returned (.I b0)/\w'=w1):=by
    by_cases q:i=0
    ·refine⟨1,zaa (by rw[if_pos q]),by omega,fun w1=>?_⟩;rw[show((i:Int) == 0)=true by rw[beq_iff_eq];omega];exact yaag w1
    ·refine⟨0,zaa (by rw[if_neg q]),by omega,fun w1=>?_⟩;rw[show((i:Int) == 0)=false by rw[beq_eq_false_iff_ne];omega];exact zzn w1
   have START:Hid (zB W wr):=J.o.1;go_wp2_with (go_at_call 156;refine(LB.o _).mono ?_;rintro e w' ⟨rfl,hw'⟩;subst w')
   go_loopw [4,5] (fun n kk wq=>∃ k:Nat,k<=ps.length/\kk=.I k/\n=.I (b0+(zlm ps i k:Int))/\Hid (zB W wq)) (fun _ kk _=>ps.length-(intOf kk).toNat)
   case atStart=>exact⟨0,by omega,rfl,by rw[yajd];simp,START⟩
   case round =>
    obtain⟨k,hk,rfl,rfl,K⟩:=hrel;obtain⟨y0,y1⟩:=CA.o wr K.o;have B:=zaa (zab BW.o K.o hz);have cl:=yagi ps i k
    have k0:(0:Int)<=(k:Int):=by omega
    clear x0 x1 START
    by_cases hlk:k<ps.length
    ·obtain⟨b,o,rfl,hbl,hcell⟩:=HZ.o (by omega);obtain⟨_,_,c2⟩:=hcell k hlk;have d2:=(B.o.cell (p:=⟨b,o+k*3+2,none⟩) hbl).trans c2
     have k1:(k:Int)<(ps.length:Int):=by omega
     obtain⟨t,HT,t1,LT⟩:∃ t:Int,Hid ((zlm ps i (k+1):Int)=(zlm ps i k:Int)+t)/\(0<=t/\t<=1)/\Hid (∀ w1:World,zC 156 #[.bool (ps[k].child == (i:Int))] w1 fun e w'=>e=.returned (.I t)/\w'=w1):=by
      cases q:(ps[k].child == (i:Int))
      ·refine⟨0,zaa (by rw[zkh hlk,q];simp),by omega,fun w1=>?_⟩;exact zzn w1
      ·refine⟨1,zaa (by rw[zkh hlk,q];simp),by omega,fun w1=>?_⟩;exact yaag w1
     clear hcell c2;generalize ps[k].child=z at *
     have cc0:(0:Int)<=(zlm ps i k:Int)/\(zlm ps i k:Int)<=1048576:=by omega
     generalize (zlm ps i k:Int)=cc at *;go_wp2_with (go_at_call 156;refine(LT.o _).mono ?_;rintro e w' ⟨rfl,hw'⟩;subst w')
     go_roundw
     case rel=>exact⟨k+1,by omega,by go_num,by rw[HT.o,Int.add_assoc],K⟩
     case measure=>simp[intOf];omega
    ·obtain rfl:k=ps.length:=by omega
     obtain⟨b,o,rfl,hbl,hcell⟩:=HW.o (by omega);obtain⟨c0,_,c2,_⟩:=hcell i hlt;have d0:=(B.o.cell (p:=⟨b,o+i*11,none⟩) hbl).trans c0;have d2:=(B.o.cell (p:=⟨b,o+i*11+2,none⟩) hbl).trans c2;have EL:=zaa (show zhf ps i ws[i]=(decide (b0+(zlm ps i ps.length:Int)=ws[i].links)&&(decide (¬ ws[i].kind=2)||zdk ps 16 i)) by unfold zhf;rw[HB.o]);have NO:=zaa (fun e=>yacr (ps:=ps) hlt e)
     have YES:=zaa (fun(e:zhf ps i ws[i]=true) j (h:j<ws.length) (a:j<i+1)=>show zhf ps j ws[j]=true by
      by_cases q:j=i
      ·subst q;exact e
      ·exact J.o.2 j h (by omega))
     clear hcell c0 c2 J HB LB
     have cc0:(0:Int)<=(zlm ps i ps.length:Int)/\(zlm ps i ps.length:Int)<=1048576:=by omega
     generalize (zlm ps i ps.length:Int)=cc at *;generalize zhf ps i ws[i]=lb at EL NO YES;generalize ws[i].links=zl at *;generalize ws[i].kind=zk at *
     by_cases q:b0+cc=zl
     ·by_cases r:zk=2
      ·subst r
       cases hh:zdk ps 16 i with
       | true =>
        have E:=zaa (YES.o (by rw[EL.o,decide_eq_true q,hh];rfl));have HH:=zaa hh;have R:=zaa (HR.o.below B.o)
        have q1:(b0+cc != zl)=false:=by rw[q];simp
        clear hh EL NO YES q;go_wp2_with fail;refine(LH.o _ _ R.o).mono ?_;rw[HH.o];rintro e w1 ⟨rfl,hb1⟩;have B1:=zaa (zab K.o hb1 K.o.size);clear hb1;go_wp2
        go_roundw
        case rel=>exact⟨i+1,by omega,by go_num,B1.o,E.o⟩
        case measure=>simp[intOf];omega
       | false =>
        have E:=zaa (NO.o (by rw[EL.o,hh];simp));have HH:=zaa hh;have R:=zaa (HR.o.below B.o)
        have q1:(b0+cc != zl)=false:=by rw[q];simp
        clear hh EL NO YES q;go_wp2_with fail;refine(LH.o _ _ R.o).mono ?_;rw[HH.o];rintro e w1 ⟨rfl,hb1⟩;have B1:=zaa (zab B.o hb1 B.o.size);clear hb1;go_wp2;go_ret;exact⟨zag E.o.symm,B1.o⟩
      ·have E:Hid (zB W wr/\∀ j (h:j<ws.length),j<i+1->zhf ps j ws[j]=true):=⟨K.o,YES.o (by rw[EL.o,decide_eq_true q,decide_eq_true r];rfl)⟩
       have r1:(zk == 2)=false:=beq_eq_false_iff_ne.2 r
       have q1:(b0+cc != zl)=false:=by rw[q];simp
       clear EL NO YES q r;go_wp2
       go_roundw
       case rel=>exact⟨i+1,by omega,by go_num,E⟩
       case measure=>simp[intOf];omega
     ·have q1:(b0+cc != zl)=true:=by rw[bne_iff_ne];exact q
      have E:=zaa (NO.o (by rw[EL.o,decide_eq_false q];rfl));clear q EL NO YES;go_wp2;go_ret;exact⟨zag E.o.symm,B.o⟩
  ·obtain rfl:i=ws.length:=by omega
   have E:=zaa (show zfv ws ps=true from decide_eq_true (fun j h=>J.o.2 j h h));go_wp2;go_ret;exact⟨zag E.o.symm,zab BW.o J.o.1 hz⟩
def zaz(n:Int):Bool:=decide (0<=n/\n<1099511627776)
def zcs(n:Int):Bool:=decide (0<=n/\n<336)
def zpa(n:Int):Bool:=decide (0<=n/\n<32)
theorem zvy{n:Int}(h:zpa n=true):0<=n/\n<32:=of_decide_eq_true h
theorem zgv{n:Int}(h:zcs n=true):0<=n/\n<336:=of_decide_eq_true h
theorem zgf(n:Int)(w:World):zC 95 #[.I n] w fun e w'=>e=.returned (.bool (zaz n))/\w'=w:=by
 by_cases h0:0<=n
 ·by_cases h1:n<1099511627776
  ·have e:zaz n=true:=decide_eq_true ⟨h0,h1⟩;rw[e];clear e;go_enter Tryz.func95,Tryz.ntmps95;go_wp2;go_ret;exact⟨rfl,rfl⟩
  ·have e:zaz n=false:=decide_eq_false (fun h=>h1 h.2);rw[e];clear e;go_enter Tryz.func95,Tryz.ntmps95;go_wp2;go_ret;exact⟨rfl,rfl⟩
 ·have e:zaz n=false:=decide_eq_false (fun h=>h0 h.1);rw[e];clear e;go_enter Tryz.func95,Tryz.ntmps95;go_wp2;go_ret;exact⟨rfl,rfl⟩
theorem zdi(n:Int)(w:World):zC 98 #[.I n] w fun e w'=>e=.returned (.bool (zcs n))/\w'=w:=by
 by_cases h0:0<=n
 ·by_cases h1:n<336
  ·have e:zcs n=true:=decide_eq_true ⟨h0,h1⟩;rw[e];clear e;go_enter Tryz.func98,Tryz.ntmps98;go_wp2;go_ret;exact⟨rfl,rfl⟩
  ·have e:zcs n=false:=decide_eq_false (fun h=>h1 h.2);rw[e];clear e;go_enter Tryz.func98,Tryz.ntmps98;go_wp2;go_ret;exact⟨rfl,rfl⟩
 ·have e:zcs n=false:=decide_eq_false (fun h=>h0 h.1);rw[e];clear e;go_enter Tryz.func98,Tryz.ntmps98;go_wp2;go_ret;exact⟨rfl,rfl⟩
theorem zeh(n:Int)(w:World):zC 167 #[.I n] w fun e w'=>e=.returned (.bool (zpa n))/\w'=w:=by
 by_cases h0:0<=n
 ·by_cases h1:n<32
  ·have e:zpa n=true:=decide_eq_true ⟨h0,h1⟩;rw[e];clear e;go_enter Tryz.func167,Tryz.ntmps167;go_wp2;go_ret;exact⟨rfl,rfl⟩
  ·have e:zpa n=false:=decide_eq_false (fun h=>h1 h.2);rw[e];clear e;go_enter Tryz.func167,Tryz.ntmps167;go_wp2;go_ret;exact⟨rfl,rfl⟩
 ·have e:zpa n=false:=decide_eq_false (fun h=>h0 h.1);rw[e];clear e;go_enter Tryz.func167,Tryz.ntmps167;go_wp2;go_ret;exact⟨rfl,rfl⟩
def inB(n lo hi:Int):Bool:=decide (lo<=n/\n<=hi)
theorem yajw(n lo hi:Int)(w:World):zC 75 #[.I n,.I lo,.I hi] w fun e w'=>e=.returned (.bool (inB n lo hi))/\w'=w:=by
 by_cases h0:lo<=n
 ·by_cases h1:n<=hi
  ·have e:inB n lo hi=true:=decide_eq_true ⟨h0,h1⟩;rw[e];clear e;go_enter Tryz.func75,Tryz.ntmps75;go_wp2;go_ret;exact⟨rfl,rfl⟩
  ·have e:inB n lo hi=false:=decide_eq_false (fun h=>h1 h.2);rw[e];clear e;go_enter Tryz.func75,Tryz.ntmps75;go_wp2;go_ret;exact⟨rfl,rfl⟩
 ·have e:inB n lo hi=false:=decide_eq_false (fun h=>h0 h.1);rw[e];clear e;go_enter Tryz.func75,Tryz.ntmps75;go_wp2;go_ret;exact⟨rfl,rfl⟩
theorem yamv(n:Int):inB n 0 1099511627775=zaz n:=by
 unfold inB zaz;rw[decide_eq_decide];omega
theorem zyv(n:Int)(w:World):zC 140 #[.I n] w fun e w'=>e=.returned (.bool (zaz n))/\w'=w:=by
 have E:=zaa (yamv n);go_enter Tryz.func140,Tryz.ntmps140;go_wp2_with fail;refine(yajw n 0 1099511627775 _).mono ?_;rw[E.o];rintro e w' ⟨rfl,rfl⟩;go_wp2;go_ret;exact⟨rfl,rfl⟩
def zij(zs:List Int):Bool:=decide (∀ k (h:k<zs.length),zaz zs[k]=true)
theorem znk{zs:List Int}(h:zij zs=true):∀ k (h:k<zs.length),zaz zs[k]=true:=of_decide_eq_true h
theorem ztm{zs:List Int}(h:∀ k (h:k<zs.length),zaz zs[k]=true):zij zs=true:=decide_eq_true h
theorem yadi{zs:List Int}{k:Nat}(hk:k<zs.length)(h:zaz zs[k]=false):zij zs=false:=decide_eq_false (fun x=>by have:=x k hk;rw[h]at this;cases this)
theorem ztu{zs:List Int}(h:zij zs=false):∃ k,∃ h:k<zs.length,zaz zs[k]=false:=by
 apply Classical.byContradiction;intro hn
 have:zij zs=true:=ztm (fun k hk=>by
  cases e:zaz zs[k] with
  | true=>rfl
  | false=>exact absurd ⟨k,hk,e⟩ hn)
 rw[h]at this
 cases this
end Go.Proofs.YtogcbbkhnpmgeaaGreatDoor
