import Derived.Test.YtdiaiejmoocpmaaGreatDoorZAC
set_option maxRecDepth 100000
set_option maxHeartbeats 4000000
namespace Go.Proofs.YtdiaiejmoocpmaaGreatDoor
open Go.RowKit
def zol(ds:List Den)(c:Int)(k:Nat):Nat:=((ds.take k).filter fun x=>x.child == c).length
theorem yant(ds:List Den)(c:Int):zol ds c 0=0:=rfl
theorem zlu{ds:List Den}{c:Int}{k:Nat}(h:k<ds.length):zol ds c (k+1)=zol ds c k+(if (ds[k].child == c)=true then 1 else 0):=by
 unfold zol;rw[List.take_succ_eq_append_getElem h,List.filter_append,List.length_append]
 congr 1
 cases q:ds[k].child == c<;>simp[List.filter,q]
theorem yaou(ds:List Den)(c:Int)(k:Nat):zol ds c k<=k:=by
 unfold zol;exact Nat.le_trans (List.length_filter_le _ _) (by simp;omega)
def ziw(ps:List Den)(i:Nat)(x:Ino):Bool:=decide ((if i=0 then 1 else 0)+(zol ps i ps.length:Int)=x.links)&&(decide (¬ x.kind=2)||zem ps 16 i)
def zhe(ws:List Ino)(ps:List Den):Bool:=decide (∀ i (h:i<ws.length),ziw ps i ws[i]=true)
theorem yaik{ws:List Ino}{ps:List Den}{i:Nat}(h:i<ws.length)(q:ziw ps i ws[i]=false):zhe ws ps=false:=decide_eq_false (fun e=>by rw[e i h]at q;cases q)
theorem yagj(w:World):zC 180 #[.bool true] w fun e w'=>e=.returned (.I 1)/\w'=w:=zul true w
theorem yafa(w:World):zC 180 #[.bool false] w fun e w'=>e=.returned (.I 0)/\w'=w:=zul false w
theorem zxm(v:Value)(ws:List Ino)(ps:List Den)(w:World)(h:RdIm w v ws ps)(hm:ws.length<=1048576)(hn:ps.length<=1048576) :
  zC 152 #[v] w fun e w'=>e=.returned (.bool (zhe ws ps))/\zB w w':=by
 have HR:=zaa h;obtain⟨vW,vP,rfl,h1,h2⟩:=h;obtain⟨aW,cW,rfl,_,hcW⟩:=h1.shape;obtain⟨aP,cP,rfl,_,hcP⟩:=h2.shape;have HW:=zaa hcW;have HZ:=zaa hcP;clear h1 h2 hcP hcW
 obtain⟨W,hW⟩:=zE (w.alloc (.cells #[.slice aW ws.length cW,.slice aP ps.length cP] 67))
 have CA:Hid (∀ w',zB W w'->w'.cell? ⟨w.heap.size,0,none⟩=some (.slice aW ws.length cW)/\w'.cell? ⟨w.heap.size,1,none⟩=some (.slice aP ps.length cP)):=fun w' hb=>by
  have:w'.heap[w.heap.size]?=some (.cells #[.slice aW ws.length cW,.slice aP ps.length cP] 67 (0,0)):=(hb.block _ (by rw[hW];simp)).trans (by rw[hW];exact zaf rfl);exact⟨(zac this).1,(zac this).2.1⟩
 have BW:Hid (zB w W):=by rw[hW];exact zR.alloc zL _
 have hz:w.heap.size<=W.heap.size:=BW.o.size;have LH:=zaa (fun d w1 h=>zyj (.agg #[.slice aW ws.length cW,.slice aP ps.length cP]) ws ps d w1 h hn);go_enter Tryz.func152,Tryz.ntmps152;go_wp2;rw[<- hW];clear hW
 go_loopw [3] (fun i wr=>∃ k:Nat,k<=ws.length/\i=.I k/\Hid (zB W wr/\∀ j (h:j<ws.length),j<k->ziw ps j ws[j]=true)) (fun i _=>ws.length-(intOf i).toNat)
 case atStart=>exact⟨0,by omega,rfl,zR,fun j h a=>absurd a (by omega)⟩
 case round =>
  obtain⟨i,hi,rfl,J⟩:=hrel;obtain⟨x0,x1⟩:=CA.o wr J.o.1
  by_cases hlt:i<ws.length
  ·have i0:(0:Int)<=(i:Int):=by omega
   have i1:(i:Int)<(ws.length:Int):=by omega
   obtain⟨b0,HB,b1,LB⟩:∃ b0:Int,Hid (b0=if i=0 then 1 else 0)/\(0<=b0/\b0<=1)/\Hid (∀ w1:World,zC 180 #[.bool ((i:Int) == 0)] w1 fun e w'=>e=.returned (.I b0)/\w'=w1):=by
    by_cases q:i=0
    ·refine⟨1,zaa (by rw[if_pos q]),by omega,fun w1=>?_⟩;rw[show((i:Int) == 0)=true by rw[beq_iff_eq];omega];exact yagj w1
    ·refine⟨0,zaa (by rw[if_neg q]),by omega,fun w1=>?_⟩;rw[show((i:Int) == 0)=false by rw[beq_eq_false_iff_ne];omega];exact yafa w1
   have START:Hid (zB W wr):=J.o.1;go_wp2_with (go_at_call 180;refine(LB.o _).mono ?_;rintro e w' ⟨rfl,hw'⟩;subst w')
   go_loopw [4,5] (fun n kk wq=>∃ k:Nat,k<=ps.length/\kk=.I k/\n=.I (b0+(zol ps i k:Int))/\Hid (zB W wq)) (fun _ kk _=>ps.length-(intOf kk).toNat)
   case atStart=>exact⟨0,by omega,rfl,by rw[yant];simp,START⟩
   case round =>
    obtain⟨k,hk,rfl,rfl,K⟩:=hrel;obtain⟨y0,y1⟩:=CA.o wr K.o;have B:=zaa (zab BW.o K.o hz);have cl:=yaou ps i k
    have k0:(0:Int)<=(k:Int):=by omega
    clear x0 x1 START
    by_cases hlk:k<ps.length
    ·obtain⟨b,o,rfl,hbl,hcell⟩:=HZ.o (by omega);obtain⟨_,_,c2⟩:=hcell k hlk;have d2:=(B.o.cell (p:=⟨b,o+k*3+2,none⟩) hbl).trans c2
     have k1:(k:Int)<(ps.length:Int):=by omega
     obtain⟨t,HT,t1,LT⟩:∃ t:Int,Hid ((zol ps i (k+1):Int)=(zol ps i k:Int)+t)/\(0<=t/\t<=1)/\Hid (∀ w1:World,zC 180 #[.bool (ps[k].child == (i:Int))] w1 fun e w'=>e=.returned (.I t)/\w'=w1):=by
      cases q:(ps[k].child == (i:Int))
      ·refine⟨0,zaa (by rw[zlu hlk,q];simp),by omega,fun w1=>?_⟩;exact yafa w1
      ·refine⟨1,zaa (by rw[zlu hlk,q];simp),by omega,fun w1=>?_⟩;exact yagj w1
     clear hcell c2;generalize ps[k].child=z at *
     have cc0:(0:Int)<=(zol ps i k:Int)/\(zol ps i k:Int)<=1048576:=by omega
     generalize (zol ps i k:Int)=cc at *;go_wp2_with (go_at_call 180;refine(LT.o _).mono ?_;rintro e w' ⟨rfl,hw'⟩;subst w')
     go_roundw
     case rel=>exact⟨k+1,by omega,by go_num,by rw[HT.o,Int.add_assoc],K⟩
     case measure=>simp[intOf];omega
    ·obtain rfl:k=ps.length:=by omega
     obtain⟨b,o,rfl,hbl,hcell⟩:=HW.o (by omega);obtain⟨c0,_,c2,_⟩:=hcell i hlt;have d0:=(B.o.cell (p:=⟨b,o+i*11,none⟩) hbl).trans c0;have d2:=(B.o.cell (p:=⟨b,o+i*11+2,none⟩) hbl).trans c2;have EL:=zaa (show ziw ps i ws[i]=(decide (b0+(zol ps i ps.length:Int)=ws[i].links)&&(decide (¬ ws[i].kind=2)||zem ps 16 i)) by unfold ziw;rw[HB.o]);have NO:=zaa (fun e=>yaik (ps:=ps) hlt e)
     have YES:=zaa (fun(e:ziw ps i ws[i]=true) j (h:j<ws.length) (a:j<i+1)=>show ziw ps j ws[j]=true by
      by_cases q:j=i
      ·subst q;exact e
      ·exact J.o.2 j h (by omega))
     clear hcell c0 c2 J HB LB
     have cc0:(0:Int)<=(zol ps i ps.length:Int)/\(zol ps i ps.length:Int)<=1048576:=by omega
     generalize (zol ps i ps.length:Int)=cc at *;generalize ziw ps i ws[i]=lb at EL NO YES;generalize ws[i].links=zl at *;generalize ws[i].kind=zk at *
     by_cases q:b0+cc=zl
     ·by_cases r:zk=2
      ·subst r
       cases hh:zem ps 16 i with
       | true =>
        have E:=zaa (YES.o (by rw[EL.o,decide_eq_true q,hh];rfl));have HH:=zaa hh;have R:=zaa (HR.o.below B.o)
        have q1:(b0+cc != zl)=false:=by rw[q];simp
        clear hh EL NO YES q;go_wp2_with fail;refine(LH.o _ _ R.o).mono ?_;rw[HH.o];rintro e w1 ⟨rfl,hb1⟩;have B1:=zaa (zab K.o hb1 K.o.size);clear hb1;go_wp2
        go_roundw
        case rel=>exact⟨i+1,by omega,by go_num,B1.o,E.o⟩
        case measure=>simp[intOf];omega
       | false =>
        have E:=zaa (NO.o (by rw[EL.o,hh];simp));have HH:=zaa hh;have R:=zaa (HR.o.below B.o)
        have q1:(b0+cc != zl)=false:=by rw[q];simp
        clear hh EL NO YES q;go_wp2_with fail;refine(LH.o _ _ R.o).mono ?_;rw[HH.o];rintro e w1 ⟨rfl,hb1⟩;have B1:=zaa (zab B.o hb1 B.o.size);clear hb1;go_wp2;go_ret;exact⟨zag E.o.symm,B1.o⟩
      ·have E:Hid (zB W wr/\∀ j (h:j<ws.length),j<i+1->ziw ps j ws[j]=true):=⟨K.o,YES.o (by rw[EL.o,decide_eq_true q,decide_eq_true r];rfl)⟩
       have r1:(zk == 2)=false:=beq_eq_false_iff_ne.2 r
       have q1:(b0+cc != zl)=false:=by rw[q];simp
       clear EL NO YES q r;go_wp2
       go_roundw
       case rel=>exact⟨i+1,by omega,by go_num,E⟩
       case measure=>simp[intOf];omega
     ·have q1:(b0+cc != zl)=true:=by rw[bne_iff_ne];exact q
      have E:=zaa (NO.o (by rw[EL.o,decide_eq_false q];rfl));clear q EL NO YES;go_wp2;go_ret;exact⟨zag E.o.symm,B.o⟩
  ·obtain rfl:i=ws.length:=by omega
   have E:=zaa (show zhe ws ps=true from decide_eq_true (fun j h=>J.o.2 j h h));go_wp2;go_ret;exact⟨zag E.o.symm,zab BW.o J.o.1 hz⟩
def zat(n:Int):Bool:=decide (0<=n/\n<1099511627776)
def zbn(n:Int):Bool:=decide (0<=n/\n<336)
def zmm(n:Int):Bool:=decide (0<=n/\n<32)
theorem zsm{n:Int}(h:zmm n=true):0<=n/\n<32:=of_decide_eq_true h
theorem zgf{n:Int}(h:zbn n=true):0<=n/\n<336:=of_decide_eq_true h
theorem zce(n:Int)(w:World):zC 51 #[.I n] w fun e w'=>e=.returned (.bool (zat n))/\w'=w:=by
 by_cases h0:0<=n
 ·by_cases h1:n<1099511627776
  ·have e:zat n=true:=decide_eq_true ⟨h0,h1⟩;rw[e];clear e;go_enter Tryz.func51,Tryz.ntmps51;go_wp2;go_ret;exact⟨rfl,rfl⟩
  ·have e:zat n=false:=decide_eq_false (fun h=>h1 h.2);rw[e];clear e;go_enter Tryz.func51,Tryz.ntmps51;go_wp2;go_ret;exact⟨rfl,rfl⟩
 ·have e:zat n=false:=decide_eq_false (fun h=>h0 h.1);rw[e];clear e;go_enter Tryz.func51,Tryz.ntmps51;go_wp2;go_ret;exact⟨rfl,rfl⟩
theorem zdj(n:Int)(w:World):zC 106 #[.I n] w fun e w'=>e=.returned (.bool (zbn n))/\w'=w:=by
 by_cases h0:0<=n
 ·by_cases h1:n<336
  ·have e:zbn n=true:=decide_eq_true ⟨h0,h1⟩;rw[e];clear e;go_enter Tryz.func106,Tryz.ntmps106;go_wp2;go_ret;exact⟨rfl,rfl⟩
  ·have e:zbn n=false:=decide_eq_false (fun h=>h1 h.2);rw[e];clear e;go_enter Tryz.func106,Tryz.ntmps106;go_wp2;go_ret;exact⟨rfl,rfl⟩
 ·have e:zbn n=false:=decide_eq_false (fun h=>h0 h.1);rw[e];clear e;go_enter Tryz.func106,Tryz.ntmps106;go_wp2;go_ret;exact⟨rfl,rfl⟩
theorem zfn(n:Int)(w:World):zC 136 #[.I n] w fun e w'=>e=.returned (.bool (zmm n))/\w'=w:=by
 by_cases h0:0<=n
 ·by_cases h1:n<32
  ·have e:zmm n=true:=decide_eq_true ⟨h0,h1⟩;rw[e];clear e;go_enter Tryz.func136,Tryz.ntmps136;go_wp2;go_ret;exact⟨rfl,rfl⟩
  ·have e:zmm n=false:=decide_eq_false (fun h=>h1 h.2);rw[e];clear e;go_enter Tryz.func136,Tryz.ntmps136;go_wp2;go_ret;exact⟨rfl,rfl⟩
 ·have e:zmm n=false:=decide_eq_false (fun h=>h0 h.1);rw[e];clear e;go_enter Tryz.func136,Tryz.ntmps136;go_wp2;go_ret;exact⟨rfl,rfl⟩
def inB(n lo hi:Int):Bool:=decide (lo<=n/\n<=hi)
theorem zqz(n lo hi:Int)(w:World):zC 65 #[.I n,.I lo,.I hi] w fun e w'=>e=.returned (.bool (inB n lo hi))/\w'=w:=by
 by_cases h0:lo<=n
 ·by_cases h1:n<=hi
  ·have e:inB n lo hi=true:=decide_eq_true ⟨h0,h1⟩;rw[e];clear e;go_enter Tryz.func65,Tryz.ntmps65;go_wp2;go_ret;exact⟨rfl,rfl⟩
  ·have e:inB n lo hi=false:=decide_eq_false (fun h=>h1 h.2);rw[e];clear e;go_enter Tryz.func65,Tryz.ntmps65;go_wp2;go_ret;exact⟨rfl,rfl⟩
 ·have e:inB n lo hi=false:=decide_eq_false (fun h=>h0 h.1);rw[e];clear e;go_enter Tryz.func65,Tryz.ntmps65;go_wp2;go_ret;exact⟨rfl,rfl⟩
theorem yasw(n:Int):inB n 0 1099511627775=zat n:=by
 unfold inB zat;rw[decide_eq_decide];omega
theorem yapt(n:Int):inB n 0 335=zbn n:=by
 unfold inB zbn;rw[decide_eq_decide];omega
theorem yaya(n:Int):inB n 0 31=zmm n:=by
 unfold inB zmm;rw[decide_eq_decide];omega
theorem zjd(n:Int)(w:World):zC 65 #[.I n,.I 0,.I 31] w fun e w'=>e=.returned (.bool (zmm n))/\w'=w:=by
 rw[<- yaya];exact zqz n 0 31 w
theorem zgx(n:Int)(w:World):zC 65 #[.I n,.I 0,.I 335] w fun e w'=>e=.returned (.bool (zbn n))/\w'=w:=by
 rw[<- yapt];exact zqz n 0 335 w
theorem zci(n:Int)(w:World):zC 66 #[.I n] w fun e w'=>e=.returned (.bool (zat n))/\w'=w:=by
 have E:=zaa (yasw n);go_enter Tryz.func66,Tryz.ntmps66;go_wp2_with fail;refine(zqz n 0 1099511627775 _).mono ?_;rw[E.o];rintro e w' ⟨rfl,rfl⟩;go_wp2;go_ret;exact⟨rfl,rfl⟩
def zkl(zs:List Int):Bool:=decide (∀ k (h:k<zs.length),zat zs[k]=true)
theorem zqq{zs:List Int}(h:zkl zs=true):∀ k (h:k<zs.length),zat zs[k]=true:=of_decide_eq_true h
theorem zyv{zs:List Int}(h:∀ k (h:k<zs.length),zat zs[k]=true):zkl zs=true:=decide_eq_true h
theorem yagv{zs:List Int}{k:Nat}(hk:k<zs.length)(h:zat zs[k]=false):zkl zs=false:=decide_eq_false (fun x=>by have:=x k hk;rw[h]at this;cases this)
theorem zxs{zs:List Int}(h:zkl zs=false):∃ k,∃ h:k<zs.length,zat zs[k]=false:=by
 apply Classical.byContradiction;intro hn
 have:zkl zs=true:=zyv (fun k hk=>by
  cases e:zat zs[k] with
  | true=>rfl
  | false=>exact absurd ⟨k,hk,e⟩ hn)
 rw[h]at this
 cases this
def Ino.ns(x:Ino):List Int:=[x.kind,x.size,x.links,x.m0,x.m1,x.m2,x.m3,x.m4,x.m5,x.m6,x.m7]
def yacf(zs:List Int):Bool:=decide (∀ k (h:k<zs.length),zeo zs[k]=true)
def yail(zs:List Int):Bool:=decide (∀ k (h:k<zs.length),(zs[k] == 0)=true)
def zlh(x:Ino):Bool:=decide (x.kind=1)&&(decide (1<=x.links/\x.links<=24)&&(decide (0<=x.size/\x.size<9)&&(yacf (x.map.take x.size.toNat)&&yail (x.map.drop x.size.toNat))))
theorem zzy:zeo 0=true:=by decide
theorem yaoh{x:Ino}(h:x.ns=[0,0,0,0,0,0,0,0,0,0,0]):zer x=true:=by
 obtain⟨k,s,l,m0,m1,m2,m3,m4,m5,m6,m7⟩:=x;simp only[Ino.ns,List.cons.injEq,and_true]at h;obtain⟨rfl,rfl,rfl,rfl,rfl,rfl,rfl,rfl,rfl,rfl,rfl⟩:=h;decide
theorem yayr{x:Ino}(h:x.ns=[2,0,1,0,0,0,0,0,0,0,0]):zer x=true:=by
 obtain⟨k,s,l,m0,m1,m2,m3,m4,m5,m6,m7⟩:=x;simp only[Ino.ns,List.cons.injEq,and_true]at h;obtain⟨rfl,rfl,rfl,rfl,rfl,rfl,rfl,rfl,rfl,rfl,rfl⟩:=h;decide
theorem yakm{x:Ino}(h0:0<=x.size)(h8:x.size<=8):mapB x.map x.size=(yacf (x.map.take x.size.toNat)&&yail (x.map.drop x.size.toNat)):=by
 rw[Bool.eq_iff_iff,Bool.and_eq_true];have hl:x.map.length=8:=rfl
 have hg:∀ i (h:i<8),x.map.getD i 0=x.map[i]'(by rw[hl];exact h):=fun i h=>by
  rw[List.getD_eq_getElem?_getD,List.getElem?_eq_getElem (by rw[hl];exact h)];rfl
 constructor
 ·intro h;have h:=zhp h;refine⟨decide_eq_true fun k hk=>?_,decide_eq_true fun k hk=>?_⟩
  ·rw[List.length_take,hl]at hk;have:=h k (by omega);rw[hg k (by omega)]at this;rw[List.getElem_take];unfold zsv at this;exact(Bool.and_eq_true _ _ ▸ this:_/\_).1
  ·rw[List.length_drop,hl]at hk;have:=h (x.size.toNat+k) (by omega);rw[hg _ (by omega)]at this;rw[List.getElem_drop];unfold zsv at this;have:=(Bool.and_eq_true _ _ ▸ this:_/\_).2;rw[Bool.or_eq_true]at this
   rcases this with h1 | h1
   ·exact h1
   ·have:=of_decide_eq_true h1;omega
 ·rintro⟨h1,h2⟩;have h1:=of_decide_eq_true h1;have h2:=of_decide_eq_true h2
  refine zwm fun i hi=>?_
  rw[hg i hi];unfold zsv;rw[Bool.and_eq_true,Bool.or_eq_true]
  by_cases hs:i<x.size.toNat
  ·have:=h1 i (by rw[List.length_take,hl];omega);rw[List.getElem_take]at this;exact⟨this,.inr (decide_eq_true (by omega))⟩
  ·have:=h2 (i-x.size.toNat) (by rw[List.length_drop,hl];omega);rw[List.getElem_drop]at this
   have e:x.size.toNat+(i-x.size.toNat)=i:=by omega
   simp only[e]at this;exact⟨by rw[eq_of_beq this];exact zzy,.inl this⟩
theorem yaij{x:Ino}(h0:x.size=0)(h:mapB x.map x.size=true):x.map=[0,0,0,0,0,0,0,0]:=by
 have h:=zhp h
 have g:∀ i,i<8->x.map.getD i 0=0:=fun i hi=>by
  have:=h i hi;unfold zsv at this;have:=(Bool.and_eq_true _ _ ▸ this:_/\_).2;rw[Bool.or_eq_true]at this
  rcases this with h1 | h1
  ·exact eq_of_beq h1
  ·have:=of_decide_eq_true h1;omega
 have a0:=g 0 (by omega);have a1:=g 1 (by omega);have a2:=g 2 (by omega);have a3:=g 3 (by omega);have a4:=g 4 (by omega);have a5:=g 5 (by omega);have a6:=g 6 (by omega);have a7:=g 7 (by omega);simp[Ino.map]at *;exact⟨a0,a1,a2,a3,a4,a5,a6,a7⟩
theorem yarq{x:Ino}(h0:¬ x.ns=[0,0,0,0,0,0,0,0,0,0,0])(h1:¬ x.ns=[2,0,1,0,0,0,0,0,0,0,0]):zlh x=zer x:=by
 by_cases hk:x.kind=1
 ·unfold zlh zer;rw[decide_eq_true hk,decide_eq_true (show 0<=x.kind/\x.kind<=2 by omega)];simp only[Bool.true_and]
  by_cases hs:0<=x.size/\x.size<=8
  ·rw[decide_eq_true hs,decide_eq_true (show 0<=x.size/\x.size<9 by omega),<- yakm hs.1 hs.2]
   have e:zfy x=decide (0<x.links):=by unfold zfy;rw[if_neg (by omega),if_neg (by omega)]
   rw[e]
   by_cases hl:1<=x.links/\x.links<=24
   ·rw[decide_eq_true hl,decide_eq_true (show 0<=x.links/\x.links<=24 by omega),decide_eq_true (show 0<x.links by omega)];simp
   ·rw[decide_eq_false hl]
    by_cases h3:0<x.links
    ·rw[decide_eq_false (show ¬ (0<=x.links/\x.links<=24) by omega)];simp
    ·rw[decide_eq_false h3];simp
  ·rw[decide_eq_false hs,decide_eq_false (show ¬ (0<=x.size/\x.size<9) by omega)];simp
 ·have e1:zlh x=false:=by unfold zlh;rw[decide_eq_false hk];rfl
  rw[e1,eq_comm,Bool.eq_false_iff];intro e;unfold zer at e;simp only[Bool.and_eq_true,decide_eq_true_eq]at e;obtain⟨a,b,c,d,f⟩:=e;unfold zfy at f
  by_cases k0:x.kind=0
  ·rw[if_pos k0]at f;obtain⟨f1,f2,f3⟩:=of_decide_eq_true f;apply h0;simp only[Ino.map,List.cons.injEq,and_true]at f3;simp[Ino.ns,k0,f1,f2,f3]
  ·rw[if_neg k0,if_pos (by omega)]at f;simp only[Bool.and_eq_true,beq_iff_eq]at f;have f3:=yaij f.1 d;apply h1;simp only[Ino.map,List.cons.injEq,and_true]at f3
   have k2:x.kind=2:=by omega
   simp[Ino.ns,k2,f.1,f.2,f3]
def ED(w:World):Prop:=∃ t fr,w.heap[4]?=some (.cells #[.I 2,.I 0,.I 1,.I 0,.I 0,.I 0,.I 0,.I 0,.I 0,.I 0,.I 0] t fr)
theorem ED.lt{w:World}(h:ED w):4<w.heap.size:=by
 obtain⟨t,fr,h⟩:=h;exact(Array.getElem?_eq_some_iff.1 h).1
theorem ED.below{w w':World}(h:ED w)(hb:zB w w'):ED w':=by
 have hl:=h.lt;obtain⟨t,fr,h⟩:=h;exact⟨t,fr,(hb.block _ hl).trans h⟩
theorem ED.cells{w:World}(h:ED w):w.cell? ⟨4,0,none⟩=some (.I 2)/\w.cell? ⟨4,1,none⟩=some (.I 0)/\w.cell? ⟨4,2,none⟩=some (.I 1)/\w.cell? ⟨4,3,none⟩=some (.I 0)/\w.cell? ⟨4,4,none⟩=some (.I 0)/\w.cell? ⟨4,5,none⟩=some (.I 0)/\w.cell? ⟨4,6,none⟩=some (.I 0)/\w.cell? ⟨4,7,none⟩=some (.I 0)/\w.cell? ⟨4,8,none⟩=some (.I 0)/\w.cell? ⟨4,9,none⟩=some (.I 0)/\w.cell? ⟨4,10,none⟩=some (.I 0):=by
 obtain⟨t,fr,h⟩:=h;simp[World.cell?,h]
theorem zqg(n:Int)(w:World)(hT:TS w)(h0:-9223372036854775808<=n)(h1:n<=9223372036854775807):zC 205 #[.I n] w fun e w'=>e=.returned (.bool (zeo n))/\w'=w:=by
 have T:=zaa hT;clear hT
 cases c:zeo n with
 | true =>
  have E:=zaa (zun c).2.2;clear c;go_enter Tryz.func205,Tryz.ntmps205;go_wp2_with (go_at_call 81;refine(zfi _ _ T.o h0 h1).mono ?_;rw[E.o];rintro e w' ⟨rfl,rfl⟩);go_ret;exact⟨rfl,rfl⟩
 | false =>
  have E:=zaa (yadr c).2.2;clear c;go_enter Tryz.func205,Tryz.ntmps205;go_wp2_with (go_at_call 81;refine(zfi _ _ T.o h0 h1).mono ?_;rw[E.o];rintro e w' ⟨rfl,rfl⟩);go_ret;exact⟨rfl,rfl⟩
theorem zls(n:Int)(w:World):zC 206 #[.I n] w fun e w'=>e=.returned (.bool (n == 0))/\w'=w:=by
 go_enter Tryz.func206,Tryz.ntmps206;go_wp2;go_ret;exact⟨rfl,rfl⟩
theorem yatf{zs:List Int}(h:∀ k (h:k<zs.length),zeo zs[k]=true):yacf zs=true:=decide_eq_true h
theorem yane{zs:List Int}{k:Nat}(hk:k<zs.length)(h:zeo zs[k]=false):yacf zs=false:=decide_eq_false (fun x=>by have:=x k hk;rw[h]at this;cases this)
theorem yatt{zs:List Int}(h:∀ k (h:k<zs.length),(zs[k] == 0)=true):yail zs=true:=decide_eq_true h
theorem yaov{zs:List Int}{k:Nat}(hk:k<zs.length)(h:(zs[k] == 0)=false):yail zs=false:=decide_eq_false (fun x=>by have:=x k hk;rw[h]at this;cases this)
theorem zki(v:Value)(zs:List Int)(w:World)(h:RdI w v zs)(hn:zs.length<=2147483648)(hT:TS w)(hr:∀ k (h:k<zs.length),-9223372036854775808<=zs[k]/\zs[k]<=9223372036854775807) :
  zC 98 #[v,.func (.func 205) #[] #[]] w fun e w'=>e=.returned (.bool (yacf zs))/\w'=w:=by
 have T:=zaa hT;have HR:=zaa hr;clear hT hr;obtain⟨ao,cap,rfl,_,hc⟩:=h.shape;clear h;go_enter Tryz.func98,Tryz.ntmps98;go_wp2
 go_loop [6,9] (fun _ i=>∃ k:Nat,k<=zs.length/\i=.I k/\Hid (∀ j (h:j<zs.length),j<k->zeo zs[j]=true)) (fun _ i=>zs.length-(intOf i).toNat)
 case atStart=>exact⟨0,by omega,rfl,fun j h a=>absurd a (by omega)⟩
 case round =>
  obtain⟨k,hk,rfl,H⟩:=hrel
  by_cases hlt:k<zs.length
  ·obtain⟨b,o,rfl,hbl,hcell⟩:=hc (by omega);have hck:=hcell k hlt;obtain⟨r0,r1⟩:=HR.o k hlt;clear hcell hc
   by_cases q:zeo zs[k]=true
   ·go_wp2_with (go_at_call 205;refine(zqg _ _ T.o r0 r1).mono ?_;rintro e w' ⟨rfl,rfl⟩)
    go_round
    case rel =>
     refine⟨k+1,by omega,by go_num,fun j h a=>?_⟩
     by_cases e:j=k
     ·subst e;exact q
     ·exact H.o j h (by omega)
    case measure=>simp[intOf];omega
   ·have q':zeo zs[k]=false:=by simpa using q
    have E:=zaa (yane hlt q');go_wp2_with (go_at_call 205;refine(zqg _ _ T.o r0 r1).mono ?_;rintro e w' ⟨rfl,rfl⟩);go_ret;exact⟨zag E.o.symm,rfl⟩
  ·have E:=zaa (yatf (fun j h=>H.o j h (by omega)));clear H;go_wp2;go_ret;exact⟨zag E.o.symm,rfl⟩
theorem zpe(v:Value)(zs:List Int)(w:World)(h:RdI w v zs)(hn:zs.length<=2147483648) :
  zC 98 #[v,.func (.func 206) #[] #[]] w fun e w'=>e=.returned (.bool (yail zs))/\w'=w:=by
 obtain⟨ao,cap,rfl,_,hc⟩:=h.shape;clear h;go_enter Tryz.func98,Tryz.ntmps98;go_wp2
 go_loop [6,9] (fun _ i=>∃ k:Nat,k<=zs.length/\i=.I k/\Hid (∀ j (h:j<zs.length),j<k->(zs[j] == 0)=true)) (fun _ i=>zs.length-(intOf i).toNat)
 case atStart=>exact⟨0,by omega,rfl,fun j h a=>absurd a (by omega)⟩
 case round =>
  obtain⟨k,hk,rfl,H⟩:=hrel
  by_cases hlt:k<zs.length
  ·obtain⟨b,o,rfl,hbl,hcell⟩:=hc (by omega);have hck:=hcell k hlt;clear hcell hc
   by_cases q:(zs[k] == 0)=true
   ·go_wp2_with (go_at_call 206;refine(zls _ _).mono ?_;rintro e w' ⟨rfl,rfl⟩)
    go_round
    case rel =>
     refine⟨k+1,by omega,by go_num,fun j h a=>?_⟩
     by_cases e:j=k
     ·subst e;exact q
     ·exact H.o j h (by omega)
    case measure=>simp[intOf];omega
   ·have q':(zs[k] == 0)=false:=by simpa using q
    have E:=zaa (yaov hlt q');go_wp2_with (go_at_call 206;refine(zls _ _).mono ?_;rintro e w' ⟨rfl,rfl⟩);go_ret;exact⟨zag E.o.symm,rfl⟩
  ·have E:=zaa (yatt (fun j h=>H.o j h (by omega)));clear H;go_wp2;go_ret;exact⟨zag E.o.symm,rfl⟩
theorem yajp(w:World)(b n:Nat)(hn:n<=8):(Instr.sliceAt 57 (.pointer (some ⟨b,3,none⟩)) none (some (.I (n:Int))) none).run Tryz.prog w=.ok (.slice (some ⟨b,3,none⟩) n 8) w:=by
 have al:Tryz.prog.arrayLen 57=8:=by kernel_rfl
 rw[run_sliceAt_array_h w 57 ⟨b,3,none⟩ (by kernel_rfl) .i64 (n:Int) (by omega) (by rw[al];omega),al]
 have sz:(sizeOf (Tryz.prog.elem 57)).run Tryz.prog w=.ok 1 w:=by kernel_rfl
 rw[sz];simp[Result.andThen,slicedAt,Addr.add]
theorem yaxz(w:World)(b n:Nat)(hn:n<=8):(Instr.sliceAt 57 (.pointer (some ⟨b,3,none⟩)) (some (.I (n:Int))) none none).run Tryz.prog w=.ok (.slice (some (if n=8 then⟨b,3,none⟩ else⟨b,3+n,none⟩)) (8-n) (8-n)) w:=by
 have al:Tryz.prog.arrayLen 57=8:=by kernel_rfl
 rw[run_sliceAt_array_l w 57 ⟨b,3,none⟩ (by kernel_rfl) .i64 (n:Int) (by omega) (by rw[al];omega),al]
 have sz:(sizeOf (Tryz.prog.elem 57)).run Tryz.prog w=.ok 1 w:=by kernel_rfl
 rw[sz]
 by_cases h:n=8
 ·subst h;simp[Result.andThen,slicedAt]
 ·have h':¬ 8=n:=by omega
  simp only[Result.andThen,slicedAt];rw[if_neg (by omega),if_neg h];simp[Addr.add]
theorem Ino.cs_map(x:Ino)(k:Nat)(hk:k<8):x.cs[3+k]?=some (.I (x.map[k]'(by rw[x.len];exact hk))):=by
 rcases(show k=0\/k=1\/k=2\/k=3\/k=4\/k=5\/k=6\/k=7 by omega)with rfl|rfl|rfl|rfl|rfl|rfl|rfl|rfl<;>rfl
theorem yarz{x:Ino}{w:World}{b n:Nat}(hn:n<=8)(hb:b<w.heap.size)(h:∀ j,w.cell? ⟨b,j,none⟩=x.cs[j]?):RdI w (.slice (some ⟨b,3,none⟩) n 8) (x.map.take n):=by
 have hl:(x.map.take n).length=n:=by rw[List.length_take,x.len];omega
 refine⟨by rw[zgb,Nat.mul_one],some ⟨b,3,none⟩,8,by rw[hl],⟨by omega,fun e=>by cases e⟩,fun _=>⟨b,3,rfl,hb,fun j hj=>?_⟩⟩;rw[hl,Nat.mul_one]at hj;rw[h,x.cs_map j (by omega),zde _ _ (by omega),List.getElem_take]
theorem yaqt{x:Ino}{w:World}{b n:Nat}(hn:n<=8)(hb:b<w.heap.size)(h:∀ j,w.cell? ⟨b,j,none⟩=x.cs[j]?):RdI w (.slice (some (if n=8 then⟨b,3,none⟩ else⟨b,3+n,none⟩)) (8-n) (8-n)) (x.map.drop n):=by
 have hl:(x.map.drop n).length=8-n:=by rw[List.length_drop,x.len]
 refine⟨by rw[zgb,Nat.mul_one],some (if n=8 then⟨b,3,none⟩ else⟨b,3+n,none⟩),8-n,by rw[hl],⟨by omega,fun e=>by cases e⟩,fun hp=>?_⟩;rw[hl]at hp;refine⟨b,3+n,by rw[if_neg (by omega)],hb,fun j hj=>?_⟩;rw[hl,Nat.mul_one]at hj;rw[h,Nat.add_assoc,x.cs_map (n+j) (by omega),zde _ _ (by omega),List.getElem_drop]
theorem Ino.R.at'{x:Ino}(h:x.R)(k:Nat)(hk:k<x.map.length):-9223372036854775808<=x.map[k]/\x.map[k]<=9223372036854775807:=h _ (List.getElem_mem _)
theorem yaht(x:Ino)(w:World)(hT:TS w)(hr:x.R):zC 192 #[x.v] w fun e w'=>e=.returned (.bool (zlh x))/\zB w w':=by
 have hv:x.v=.agg x.cs.toArray:=rfl
 obtain⟨W,hW⟩:=zE (w.alloc (.cells x.cs.toArray 59))
 have CA:Hid (∀ j,W.cell? ⟨w.heap.size,j,none⟩=x.cs[j]?):=fun j=>by rw[hW];exact(zak (xs:=x.cs) (zaf rfl) j).1
 have BW:Hid (zB w W):=by rw[hW];exact zR.alloc zL _
 have T:Hid (TS W):=hT.below BW.o
 have hWz:w.heap.size<W.heap.size:=by rw[hW];simp
 have c0:W.cell? ⟨w.heap.size,0,none⟩=some (.I x.kind):=CA.o 0;have c1:W.cell? ⟨w.heap.size,1,none⟩=some (.I x.size):=CA.o 1;have c2:W.cell? ⟨w.heap.size,2,none⟩=some (.I x.links):=CA.o 2;have HR:=zaa hr;subst hW;rw[hv];clear hT hr
 by_cases h0:x.kind=1
 case neg =>
  have E:=zaa (show zlh x=false by unfold zlh;rw[decide_eq_false h0];rfl)
  have q:(x.kind != 1)=true:=by rw[bne_iff_ne];exact h0
  go_enter Tryz.func192,Tryz.ntmps192;go_wp2;go_ret;exact⟨zag E.o.symm,BW.o⟩
 have q:(x.kind != 1)=false:=by rw[h0];rfl
 by_cases h1:1<=x.links
 case neg =>
  have E:=zaa (show zlh x=false by unfold zlh;rw[decide_eq_true h0,decide_eq_false (show ¬ (1<=x.links/\x.links<=24) by omega)];rfl)
  have q2:x.links<1:=by omega
  go_enter Tryz.func192,Tryz.ntmps192;go_wp2;go_ret;exact⟨zag E.o.symm,BW.o⟩
 have q2:¬ x.links<1:=by omega
 by_cases h2:x.links<=24
 case neg =>
  have E:=zaa (show zlh x=false by unfold zlh;rw[decide_eq_true h0,decide_eq_false (show ¬ (1<=x.links/\x.links<=24) by omega)];rfl)
  have q3:24<x.links:=by omega
  go_enter Tryz.func192,Tryz.ntmps192;go_wp2;go_ret;exact⟨zag E.o.symm,BW.o⟩
 have q3:¬ 24<x.links:=by omega
 by_cases h3:0<=x.size/\x.size<9
 case neg =>
  have E:=zaa (show zlh x=false by unfold zlh;rw[decide_eq_true h0,decide_eq_true (show 1<=x.links/\x.links<=24 by omega),decide_eq_false h3];rfl);have H3:=zaa h3;clear h3;go_enter Tryz.func192,Tryz.ntmps192;go_wp2_with (go_at_call 50;refine(zbe _ _ _ H3.o).mono ?_;rintro e w' ⟨rfl,rfl⟩);go_ret;exact⟨zag E.o.symm,BW.o⟩
 have E:=zaa (show zlh x=(yacf (x.map.take x.size.toNat)&&yail (x.map.drop x.size.toNat)) by unfold zlh;rw[decide_eq_true h0,decide_eq_true (show 1<=x.links/\x.links<=24 by omega),decide_eq_true h3];rfl)
 obtain⟨n,hn⟩:∃ n:Nat,x.size=(n:Int):=⟨x.size.toNat,by omega⟩
 have hn8:n<=8:=by omega
 rw[show x.size.toNat=n by omega]at E;rw[hn]at c1 h3;have R1:=zaa (yarz (x:=x) hn8 hWz CA.o);have R2:=zaa (yaqt (x:=x) hn8 hWz CA.o);have s1:=yajp (w.alloc (.cells x.cs.toArray 59)) w.heap.size n hn8;have s2:=yaxz (w.alloc (.cells x.cs.toArray 59)) w.heap.size n hn8;have L1:=zaa (show(x.map.take n).length<=2147483648 by rw[List.length_take];omega);have L2:=zaa (show(x.map.drop n).length<=2147483648 by rw[List.length_drop,x.len];omega);have RR:=zaa (show ∀ k (h:k<(x.map.take n).length),-9223372036854775808<=(x.map.take n)[k]/\(x.map.take n)[k]<=9223372036854775807 from fun k h=>by rw[List.getElem_take];exact HR.o.at' k _);have H3:=zaa h3;generalize (if n=8 then(⟨w.heap.size,3,none⟩:Addr) else⟨w.heap.size,3+n,none⟩)=aT at s2 R2
 cases hq:yacf (x.map.take n) with
 | false =>
  have TQ:=zaa hq;rw[hq]at E;clear h3 hn hq;go_enter Tryz.func192,Tryz.ntmps192;go_wp2_with fail;refine(zaq _ _ _ H3.o).mono ?_;rintro e w' ⟨rfl,rfl⟩;go_wp2_with fail;refine(zki _ _ _ R1.o L1.o T.o RR.o).mono ?_;rw[TQ.o];rintro e w' ⟨rfl,rfl⟩;go_wp2;go_ret;exact⟨zag (by rw[E.o];rfl),BW.o⟩
 | true =>
  have TQ:=zaa hq;rw[hq]at E;clear h3 hn hq;go_enter Tryz.func192,Tryz.ntmps192;go_wp2_with fail;refine(zaq _ _ _ H3.o).mono ?_;rintro e w' ⟨rfl,rfl⟩;go_wp2_with fail;refine(zki _ _ _ R1.o L1.o T.o RR.o).mono ?_;rw[TQ.o];rintro e w' ⟨rfl,rfl⟩;go_wp2_with fail;refine(zpe _ _ _ R2.o L2.o).mono ?_;rintro e w' ⟨rfl,rfl⟩;go_wp2;go_ret;exact⟨zag (by rw[E.o];rfl),BW.o⟩
end Go.Proofs.YtdiaiejmoocpmaaGreatDoor
