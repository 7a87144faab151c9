import Derived.Test.YtogcbbkhnpmgeaaGreatDoorZAD
import Derived.Laws.CopyRow
import Derived.Laws.CopyOwn
set_option maxRecDepth 100000
set_option maxHeartbeats 4000000
namespace Go.Proofs.YtogcbbkhnpmgeaaGreatDoor
open Go.RowKit
def Ino.ns(x:Ino):List Int:=[x.kind,x.size,x.links,x.m0,x.m1,x.m2,x.m3,x.m4,x.m5,x.m6,x.m7]
def zxe(zs:List Int):Bool:=decide (∀ k (h:k<zs.length),zef zs[k]=true)
def yadh(zs:List Int):Bool:=decide (∀ k (h:k<zs.length),(zs[k] == 0)=true)
def zio(x:Ino):Bool:=decide (x.kind=1)&&(decide (1<=x.links/\x.links<=24)&&(decide (0<=x.size/\x.size<9)&&(zxe (x.map.take x.size.toNat)&&yadh (x.map.drop x.size.toNat))))
theorem zts:zef 0=true:=by decide
theorem yahi{x:Ino}(h:x.ns=[0,0,0,0,0,0,0,0,0,0,0]):zdp x=true:=by
 obtain⟨k,s,l,m0,m1,m2,m3,m4,m5,m6,m7⟩:=x;simp only[Ino.ns,List.cons.injEq,and_true]at h;obtain⟨rfl,rfl,rfl,rfl,rfl,rfl,rfl,rfl,rfl,rfl,rfl⟩:=h;decide
theorem yarf{x:Ino}(h:x.ns=[2,0,1,0,0,0,0,0,0,0,0]):zdp x=true:=by
 obtain⟨k,s,l,m0,m1,m2,m3,m4,m5,m6,m7⟩:=x;simp only[Ino.ns,List.cons.injEq,and_true]at h;obtain⟨rfl,rfl,rfl,rfl,rfl,rfl,rfl,rfl,rfl,rfl,rfl⟩:=h;decide
theorem yagg{x:Ino}(h0:0<=x.size)(h8:x.size<=8):mapB x.map x.size=(zxe (x.map.take x.size.toNat)&&yadh (x.map.drop x.size.toNat)):=by
 rw[Bool.eq_iff_iff,Bool.and_eq_true];have hl:x.map.length=8:=rfl
 have hg:∀ i (h:i<8),x.map.getD i 0=x.map[i]'(by rw[hl];exact h):=fun i h=>by
  rw[List.getD_eq_getElem?_getD,List.getElem?_eq_getElem (by rw[hl];exact h)];rfl
 constructor
 ·intro h;have h:=zhb h;refine⟨decide_eq_true fun k hk=>?_,decide_eq_true fun k hk=>?_⟩
  ·rw[List.length_take,hl]at hk;have:=h k (by omega);rw[hg k (by omega)]at this;rw[List.getElem_take];unfold zpp at this;exact(Bool.and_eq_true _ _ ▸ this:_/\_).1
  ·rw[List.length_drop,hl]at hk;have:=h (x.size.toNat+k) (by omega);rw[hg _ (by omega)]at this;rw[List.getElem_drop];unfold zpp at this;have:=(Bool.and_eq_true _ _ ▸ this:_/\_).2;rw[Bool.or_eq_true]at this
   rcases this with h1 | h1
   ·exact h1
   ·have:=of_decide_eq_true h1;omega
 ·rintro⟨h1,h2⟩;have h1:=of_decide_eq_true h1;have h2:=of_decide_eq_true h2
  refine zro fun i hi=>?_
  rw[hg i hi];unfold zpp;rw[Bool.and_eq_true,Bool.or_eq_true]
  by_cases hs:i<x.size.toNat
  ·have:=h1 i (by rw[List.length_take,hl];omega);rw[List.getElem_take]at this;exact⟨this,.inr (decide_eq_true (by omega))⟩
  ·have:=h2 (i-x.size.toNat) (by rw[List.length_drop,hl];omega);rw[List.getElem_drop]at this
   have e:x.size.toNat+(i-x.size.toNat)=i:=by omega
   simp only[e]at this;exact⟨by rw[eq_of_beq this];exact zts,.inl this⟩
theorem yacl{x:Ino}(h0:x.size=0)(h:mapB x.map x.size=true):x.map=[0,0,0,0,0,0,0,0]:=by
 have h:=zhb h
 have g:∀ i,i<8->x.map.getD i 0=0:=fun i hi=>by
  have:=h i hi;unfold zpp at this;have:=(Bool.and_eq_true _ _ ▸ this:_/\_).2;rw[Bool.or_eq_true]at this
  rcases this with h1 | h1
  ·exact eq_of_beq h1
  ·have:=of_decide_eq_true h1;omega
 have a0:=g 0 (by omega);have a1:=g 1 (by omega);have a2:=g 2 (by omega);have a3:=g 3 (by omega);have a4:=g 4 (by omega);have a5:=g 5 (by omega);have a6:=g 6 (by omega);have a7:=g 7 (by omega);simp[Ino.map]at *;exact⟨a0,a1,a2,a3,a4,a5,a6,a7⟩
theorem yani{x:Ino}(h0:¬ x.ns=[0,0,0,0,0,0,0,0,0,0,0])(h1:¬ x.ns=[2,0,1,0,0,0,0,0,0,0,0]):zio x=zdp x:=by
 by_cases hk:x.kind=1
 ·unfold zio zdp;rw[decide_eq_true hk,decide_eq_true (show 0<=x.kind/\x.kind<=2 by omega)];simp only[Bool.true_and]
  by_cases hs:0<=x.size/\x.size<=8
  ·rw[decide_eq_true hs,decide_eq_true (show 0<=x.size/\x.size<9 by omega),<- yagg hs.1 hs.2]
   have e:zex x=decide (0<x.links):=by unfold zex;rw[if_neg (by omega),if_neg (by omega)]
   rw[e]
   by_cases hl:1<=x.links/\x.links<=24
   ·rw[decide_eq_true hl,decide_eq_true (show 0<=x.links/\x.links<=24 by omega),decide_eq_true (show 0<x.links by omega)];simp
   ·rw[decide_eq_false hl]
    by_cases h3:0<x.links
    ·rw[decide_eq_false (show ¬ (0<=x.links/\x.links<=24) by omega)];simp
    ·rw[decide_eq_false h3];simp
  ·rw[decide_eq_false hs,decide_eq_false (show ¬ (0<=x.size/\x.size<9) by omega)];simp
 ·have e1:zio x=false:=by unfold zio;rw[decide_eq_false hk];rfl
  rw[e1,eq_comm,Bool.eq_false_iff];intro e;unfold zdp at e;simp only[Bool.and_eq_true,decide_eq_true_eq]at e;obtain⟨a,b,c,d,f⟩:=e;unfold zex at f
  by_cases k0:x.kind=0
  ·rw[if_pos k0]at f;obtain⟨f1,f2,f3⟩:=of_decide_eq_true f;apply h0;simp only[Ino.map,List.cons.injEq,and_true]at f3;simp[Ino.ns,k0,f1,f2,f3]
  ·rw[if_neg k0,if_pos (by omega)]at f;simp only[Bool.and_eq_true,beq_iff_eq]at f;have f3:=yacl f.1 d;apply h1;simp only[Ino.map,List.cons.injEq,and_true]at f3
   have k2:x.kind=2:=by omega
   simp[Ino.ns,k2,f.1,f.2,f3]
def ED(w:World):Prop:=∃ t fr,w.heap[1]?=some (.cells #[.I 2,.I 0,.I 1,.I 0,.I 0,.I 0,.I 0,.I 0,.I 0,.I 0,.I 0] t fr)
theorem ED.lt{w:World}(h:ED w):1<w.heap.size:=by
 obtain⟨t,fr,h⟩:=h;exact(Array.getElem?_eq_some_iff.1 h).1
theorem ED.below{w w':World}(h:ED w)(hb:zB w w'):ED w':=by
 have hl:=h.lt;obtain⟨t,fr,h⟩:=h;exact⟨t,fr,(hb.block _ hl).trans h⟩
theorem ED.cells{w:World}(h:ED w):w.cell? ⟨1,0,none⟩=some (.I 2)/\w.cell? ⟨1,1,none⟩=some (.I 0)/\w.cell? ⟨1,2,none⟩=some (.I 1)/\w.cell? ⟨1,3,none⟩=some (.I 0)/\w.cell? ⟨1,4,none⟩=some (.I 0)/\w.cell? ⟨1,5,none⟩=some (.I 0)/\w.cell? ⟨1,6,none⟩=some (.I 0)/\w.cell? ⟨1,7,none⟩=some (.I 0)/\w.cell? ⟨1,8,none⟩=some (.I 0)/\w.cell? ⟨1,9,none⟩=some (.I 0)/\w.cell? ⟨1,10,none⟩=some (.I 0):=by
 obtain⟨t,fr,h⟩:=h;simp[World.cell?,h]
theorem zoy(n:Int)(w:World)(hT:TS w)(h0:-9223372036854775808<=n)(h1:n<=9223372036854775807):zC 212 #[.I n] w fun e w'=>e=.returned (.bool (zef n))/\w'=w:=by
 have T:=zaa hT;clear hT
 cases c:zef n with
 | true =>
  have E:=zaa (ztq c).2.2;clear c;go_enter Tryz.func212,Tryz.ntmps212;go_wp2_with (go_at_call 120;refine(zfq _ _ T.o h0 h1).mono ?_;rw[E.o];rintro e w' ⟨rfl,rfl⟩);go_ret;exact⟨rfl,rfl⟩
 | false =>
  have E:=zaa (zyt c).2.2;clear c;go_enter Tryz.func212,Tryz.ntmps212;go_wp2_with (go_at_call 120;refine(zfq _ _ T.o h0 h1).mono ?_;rw[E.o];rintro e w' ⟨rfl,rfl⟩);go_ret;exact⟨rfl,rfl⟩
theorem zeu(n:Int)(w:World):zC 86 #[.I n] w fun e w'=>e=.returned (.bool (n == 0))/\w'=w:=by
 go_enter Tryz.func86,Tryz.ntmps86;go_wp2;go_ret;exact⟨rfl,rfl⟩
theorem yalf{zs:List Int}(h:∀ k (h:k<zs.length),zef zs[k]=true):zxe zs=true:=decide_eq_true h
theorem yajj{zs:List Int}{k:Nat}(hk:k<zs.length)(h:zef zs[k]=false):zxe zs=false:=decide_eq_false (fun x=>by have:=x k hk;rw[h]at this;cases this)
theorem yano{zs:List Int}(h:∀ k (h:k<zs.length),(zs[k] == 0)=true):yadh zs=true:=decide_eq_true h
theorem yage{zs:List Int}{k:Nat}(hk:k<zs.length)(h:(zs[k] == 0)=false):yadh zs=false:=decide_eq_false (fun x=>by have:=x k hk;rw[h]at this;cases this)
theorem zii(v:Value)(zs:List Int)(w:World)(h:RdI w v zs)(hn:zs.length<=2147483648)(hT:TS w)(hr:∀ k (h:k<zs.length),-9223372036854775808<=zs[k]/\zs[k]<=9223372036854775807) :
  zC 94 #[v,.func (.func 212) #[] #[]] w fun e w'=>e=.returned (.bool (zxe zs))/\w'=w:=by
 have T:=zaa hT;have HR:=zaa hr;clear hT hr;obtain⟨ao,cap,rfl,_,hc⟩:=h.shape;clear h;go_enter Tryz.func94,Tryz.ntmps94;go_wp2
 go_loop [6,9] (fun _ i=>∃ k:Nat,k<=zs.length/\i=.I k/\Hid (∀ j (h:j<zs.length),j<k->zef zs[j]=true)) (fun _ i=>zs.length-(intOf i).toNat)
 case atStart=>exact⟨0,by omega,rfl,fun j h a=>absurd a (by omega)⟩
 case round =>
  obtain⟨k,hk,rfl,H⟩:=hrel
  by_cases hlt:k<zs.length
  ·obtain⟨b,o,rfl,hbl,hcell⟩:=hc (by omega);have hck:=hcell k hlt;obtain⟨r0,r1⟩:=HR.o k hlt;clear hcell hc
   by_cases q:zef zs[k]=true
   ·go_wp2_with (go_at_call 212;refine(zoy _ _ T.o r0 r1).mono ?_;rintro e w' ⟨rfl,rfl⟩)
    go_round
    case rel =>
     refine⟨k+1,by omega,by go_num,fun j h a=>?_⟩
     by_cases e:j=k
     ·subst e;exact q
     ·exact H.o j h (by omega)
    case measure=>simp[intOf];omega
   ·have q':zef zs[k]=false:=by simpa using q
    have E:=zaa (yajj hlt q');go_wp2_with (go_at_call 212;refine(zoy _ _ T.o r0 r1).mono ?_;rintro e w' ⟨rfl,rfl⟩);go_ret;exact⟨zag E.o.symm,rfl⟩
  ·have E:=zaa (yalf (fun j h=>H.o j h (by omega)));clear H;go_wp2;go_ret;exact⟨zag E.o.symm,rfl⟩
theorem zlw(v:Value)(zs:List Int)(w:World)(h:RdI w v zs)(hn:zs.length<=2147483648) :
  zC 94 #[v,.func (.func 86) #[] #[]] w fun e w'=>e=.returned (.bool (yadh zs))/\w'=w:=by
 obtain⟨ao,cap,rfl,_,hc⟩:=h.shape;clear h;go_enter Tryz.func94,Tryz.ntmps94;go_wp2
 go_loop [6,9] (fun _ i=>∃ k:Nat,k<=zs.length/\i=.I k/\Hid (∀ j (h:j<zs.length),j<k->(zs[j] == 0)=true)) (fun _ i=>zs.length-(intOf i).toNat)
 case atStart=>exact⟨0,by omega,rfl,fun j h a=>absurd a (by omega)⟩
 case round =>
  obtain⟨k,hk,rfl,H⟩:=hrel
  by_cases hlt:k<zs.length
  ·obtain⟨b,o,rfl,hbl,hcell⟩:=hc (by omega);have hck:=hcell k hlt;clear hcell hc
   by_cases q:(zs[k] == 0)=true
   ·go_wp2_with (go_at_call 86;refine(zeu _ _).mono ?_;rintro e w' ⟨rfl,rfl⟩)
    go_round
    case rel =>
     refine⟨k+1,by omega,by go_num,fun j h a=>?_⟩
     by_cases e:j=k
     ·subst e;exact q
     ·exact H.o j h (by omega)
    case measure=>simp[intOf];omega
   ·have q':(zs[k] == 0)=false:=by simpa using q
    have E:=zaa (yage hlt q');go_wp2_with (go_at_call 86;refine(zeu _ _).mono ?_;rintro e w' ⟨rfl,rfl⟩);go_ret;exact⟨zag E.o.symm,rfl⟩
  ·have E:=zaa (yano (fun j h=>H.o j h (by omega)));clear H;go_wp2;go_ret;exact⟨zag E.o.symm,rfl⟩
theorem yaer(w:World)(b n:Nat)(hn:n<=8):(Instr.sliceAt 85 (.pointer (some ⟨b,3,none⟩)) none (some (.I (n:Int))) none).run Tryz.prog w=.ok (.slice (some ⟨b,3,none⟩) n 8) w:=by
 have al:Tryz.prog.arrayLen 85=8:=by kernel_rfl
 rw[run_sliceAt_array_h w 85 ⟨b,3,none⟩ (by kernel_rfl) .i64 (n:Int) (by omega) (by rw[al];omega),al]
 have sz:(sizeOf (Tryz.prog.elem 85)).run Tryz.prog w=.ok 1 w:=by kernel_rfl
 rw[sz];simp[Result.andThen,slicedAt,Addr.add]
theorem yaqj(w:World)(b n:Nat)(hn:n<=8):(Instr.sliceAt 85 (.pointer (some ⟨b,3,none⟩)) (some (.I (n:Int))) none none).run Tryz.prog w=.ok (.slice (some (if n=8 then⟨b,3,none⟩ else⟨b,3+n,none⟩)) (8-n) (8-n)) w:=by
 have al:Tryz.prog.arrayLen 85=8:=by kernel_rfl
 rw[run_sliceAt_array_l w 85 ⟨b,3,none⟩ (by kernel_rfl) .i64 (n:Int) (by omega) (by rw[al];omega),al]
 have sz:(sizeOf (Tryz.prog.elem 85)).run Tryz.prog w=.ok 1 w:=by kernel_rfl
 rw[sz]
 by_cases h:n=8
 ·subst h;simp[Result.andThen,slicedAt]
 ·have h':¬ 8=n:=by omega
  simp only[Result.andThen,slicedAt];rw[if_neg (by omega),if_neg h];simp[Addr.add]
theorem Ino.cs_map(x:Ino)(k:Nat)(hk:k<8):x.cs[3+k]?=some (.I (x.map[k]'(by rw[x.len];exact hk))):=by
 rcases(show k=0\/k=1\/k=2\/k=3\/k=4\/k=5\/k=6\/k=7 by omega)with rfl|rfl|rfl|rfl|rfl|rfl|rfl|rfl<;>rfl
theorem yamg{x:Ino}{w:World}{b n:Nat}(hn:n<=8)(hb:b<w.heap.size)(h:∀ j,w.cell? ⟨b,j,none⟩=x.cs[j]?):RdI w (.slice (some ⟨b,3,none⟩) n 8) (x.map.take n):=by
 have hl:(x.map.take n).length=n:=by rw[List.length_take,x.len];omega
 refine⟨by rw[zji,Nat.mul_one],some ⟨b,3,none⟩,8,by rw[hl],⟨by omega,fun e=>by cases e⟩,fun _=>⟨b,3,rfl,hb,fun j hj=>?_⟩⟩;rw[hl,Nat.mul_one]at hj;rw[h,x.cs_map j (by omega),zcp _ _ (by omega),List.getElem_take]
theorem yalr{x:Ino}{w:World}{b n:Nat}(hn:n<=8)(hb:b<w.heap.size)(h:∀ j,w.cell? ⟨b,j,none⟩=x.cs[j]?):RdI w (.slice (some (if n=8 then⟨b,3,none⟩ else⟨b,3+n,none⟩)) (8-n) (8-n)) (x.map.drop n):=by
 have hl:(x.map.drop n).length=8-n:=by rw[List.length_drop,x.len]
 refine⟨by rw[zji,Nat.mul_one],some (if n=8 then⟨b,3,none⟩ else⟨b,3+n,none⟩),8-n,by rw[hl],⟨by omega,fun e=>by cases e⟩,fun hp=>?_⟩;rw[hl]at hp;refine⟨b,3+n,by rw[if_neg (by omega)],hb,fun j hj=>?_⟩;rw[hl,Nat.mul_one]at hj;rw[h,Nat.add_assoc,x.cs_map (n+j) (by omega),zcp _ _ (by omega),List.getElem_drop]
theorem Ino.R.at'{x:Ino}(h:x.R)(k:Nat)(hk:k<x.map.length):-9223372036854775808<=x.map[k]/\x.map[k]<=9223372036854775807:=h _ (List.getElem_mem _)
theorem yaca(x:Ino)(w:World)(hT:TS w)(hr:x.R):zC 168 #[x.v] w fun e w'=>e=.returned (.bool (zio x))/\zB w w':=by
 have hv:x.v=.agg x.cs.toArray:=rfl
 obtain⟨W,hW⟩:=zE (w.alloc (.cells x.cs.toArray 87))
 have CA:Hid (∀ j,W.cell? ⟨w.heap.size,j,none⟩=x.cs[j]?):=fun j=>by rw[hW];exact(zak (xs:=x.cs) (zah rfl) j).1
 have BW:Hid (zB w W):=by rw[hW];exact zR.alloc zL _
 have T:Hid (TS W):=hT.below BW.o
 have hWz:w.heap.size<W.heap.size:=by rw[hW];simp
 have c0:W.cell? ⟨w.heap.size,0,none⟩=some (.I x.kind):=CA.o 0;have c1:W.cell? ⟨w.heap.size,1,none⟩=some (.I x.size):=CA.o 1;have c2:W.cell? ⟨w.heap.size,2,none⟩=some (.I x.links):=CA.o 2;have HR:=zaa hr;subst hW;rw[hv];clear hT hr
 by_cases h0:x.kind=1
 case neg =>
  have E:=zaa (show zio x=false by unfold zio;rw[decide_eq_false h0];rfl)
  have q:(x.kind != 1)=true:=by rw[bne_iff_ne];exact h0
  go_enter Tryz.func168,Tryz.ntmps168;go_wp2;go_ret;exact⟨zag E.o.symm,BW.o⟩
 have q:(x.kind != 1)=false:=by rw[h0];rfl
 by_cases h1:1<=x.links
 case neg =>
  have E:=zaa (show zio x=false by unfold zio;rw[decide_eq_true h0,decide_eq_false (show ¬ (1<=x.links/\x.links<=24) by omega)];rfl)
  have q2:x.links<1:=by omega
  go_enter Tryz.func168,Tryz.ntmps168;go_wp2;go_ret;exact⟨zag E.o.symm,BW.o⟩
 have q2:¬ x.links<1:=by omega
 by_cases h2:x.links<=24
 case neg =>
  have E:=zaa (show zio x=false by unfold zio;rw[decide_eq_true h0,decide_eq_false (show ¬ (1<=x.links/\x.links<=24) by omega)];rfl)
  have q3:24<x.links:=by omega
  go_enter Tryz.func168,Tryz.ntmps168;go_wp2;go_ret;exact⟨zag E.o.symm,BW.o⟩
 have q3:¬ 24<x.links:=by omega
 by_cases h3:0<=x.size/\x.size<9
 case neg =>
  have E:=zaa (show zio x=false by unfold zio;rw[decide_eq_true h0,decide_eq_true (show 1<=x.links/\x.links<=24 by omega),decide_eq_false h3];rfl);have H3:=zaa h3;clear h3;go_enter Tryz.func168,Tryz.ntmps168;go_wp2_with (go_at_call 39;refine(zdm _ _ _ H3.o).mono ?_;rintro e w' ⟨rfl,rfl⟩);go_ret;exact⟨zag E.o.symm,BW.o⟩
 have E:=zaa (show zio x=(zxe (x.map.take x.size.toNat)&&yadh (x.map.drop x.size.toNat)) by unfold zio;rw[decide_eq_true h0,decide_eq_true (show 1<=x.links/\x.links<=24 by omega),decide_eq_true h3];rfl)
 obtain⟨n,hn⟩:∃ n:Nat,x.size=(n:Int):=⟨x.size.toNat,by omega⟩
 have hn8:n<=8:=by omega
 rw[show x.size.toNat=n by omega]at E;rw[hn]at c1 h3;have R1:=zaa (yamg (x:=x) hn8 hWz CA.o);have R2:=zaa (yalr (x:=x) hn8 hWz CA.o);have s1:=yaer (w.alloc (.cells x.cs.toArray 87)) w.heap.size n hn8;have s2:=yaqj (w.alloc (.cells x.cs.toArray 87)) w.heap.size n hn8;have L1:=zaa (show(x.map.take n).length<=2147483648 by rw[List.length_take];omega);have L2:=zaa (show(x.map.drop n).length<=2147483648 by rw[List.length_drop,x.len];omega);have RR:=zaa (show ∀ k (h:k<(x.map.take n).length),-9223372036854775808<=(x.map.take n)[k]/\(x.map.take n)[k]<=9223372036854775807 from fun k h=>by rw[List.getElem_take];exact HR.o.at' k _);have H3:=zaa h3;generalize (if n=8 then(⟨w.heap.size,3,none⟩:Addr) else⟨w.heap.size,3+n,none⟩)=aT at s2 R2
 cases hq:zxe (x.map.take n) with
 | false =>
  have TQ:=zaa hq;rw[hq]at E;clear h3 hn hq;go_enter Tryz.func168,Tryz.ntmps168;go_wp2_with fail;refine(zbw _ _ _ H3.o).mono ?_;rintro e w' ⟨rfl,rfl⟩;go_wp2_with fail;refine(zii _ _ _ R1.o L1.o T.o RR.o).mono ?_;rw[TQ.o];rintro e w' ⟨rfl,rfl⟩;go_wp2;go_ret;exact⟨zag (by rw[E.o];rfl),BW.o⟩
 | true =>
  have TQ:=zaa hq;rw[hq]at E;clear h3 hn hq;go_enter Tryz.func168,Tryz.ntmps168;go_wp2_with fail;refine(zbw _ _ _ H3.o).mono ?_;rintro e w' ⟨rfl,rfl⟩;go_wp2_with fail;refine(zii _ _ _ R1.o L1.o T.o RR.o).mono ?_;rw[TQ.o];rintro e w' ⟨rfl,rfl⟩;go_wp2_with fail;refine(zlw _ _ _ R2.o L2.o).mono ?_;rintro e w' ⟨rfl,rfl⟩;go_wp2;go_ret;exact⟨zag (by rw[E.o];rfl),BW.o⟩
theorem yavb{zs:List Int}{n:Int}{k:Nat}(hk:k<zs.length)(h:n=zs[k]):zha zs n=true:=by
 unfold zha;rw[List.contains_eq_any_beq,List.any_eq_true];exact⟨zs[k],List.getElem_mem _,by rw[h];simp⟩
theorem zvb(v:Value)(zs:List Int)(n:Int)(w:World)(h:RdI w v zs)(hn:zs.length<=1048576) :
  zC 171 #[v,.I n] w fun e w'=>∃ r:Int,e=.returned (.I r)/\(decide (0<=r)=zha zs n)/\w'=w:=by
 obtain⟨aZ,cZ,rfl,_,hcZ⟩:=h.shape;have HZ:=zaa hcZ;clear h hcZ;go_enter Tryz.func171,Tryz.ntmps171;go_wp2
 go_loop [5,8] (fun _ i=>∃ k:Nat,k<=zs.length/\i=.I k/\Hid (∀ j (h:j<zs.length),j<k->¬ zs[j]=n)) (fun _ i=>zs.length-(intOf i).toNat)
 case atStart=>exact⟨0,by omega,rfl,fun j h a=>absurd a (by omega)⟩
 case round =>
  obtain⟨k,hk,rfl,H⟩:=hrel
  by_cases hlt:k<zs.length
  ·obtain⟨b,o,rfl,hbl,hcell⟩:=HZ.o (by omega);have hck:=hcell k hlt;clear hcell
   by_cases q:n=zs[k]
   ·have q':(n == zs[k])=true:=by rw[beq_iff_eq];exact q
    have E:=zaa (yavb hlt q);clear q H;generalize zs[k]=z at *;go_wp2;go_ret;exact⟨_,rfl,by rw[E.o];exact decide_eq_true (by omega),rfl⟩
   ·have q':(n == zs[k])=false:=by rw[beq_eq_false_iff_ne];exact q
    have H':Hid (∀ j (h:j<zs.length),j<k+1->¬ zs[j]=n):=fun j h a=>by
     by_cases e:j=k
     ·subst e;exact fun e=>q e.symm
     ·exact H.o j h (by omega)
    clear q H;generalize zs[k]=z at hck q';go_wp2
    go_round
    case rel=>exact⟨k+1,by omega,by go_num,H'⟩
    case measure=>simp[intOf];omega
  ·have E:=zaa (yahr (fun j h=>H.o j h (by omega)));clear H;go_wp2;go_ret;exact⟨_,rfl,by rw[E.o];rfl,rfl⟩
theorem zhc(v:Value)(zs:List Int)(n:Int)(w:World)(h:RdI w v zs)(hn:zs.length<=1048576) :
  zC 119 #[v,.I n] w fun e w'=>e=.returned (.bool (zha zs n))/\w'=w:=by
 have HZ:=zaa h;obtain⟨aZ,cZ,rfl,_,_⟩:=h.shape;clear h;go_enter Tryz.func119,Tryz.ntmps119;go_wp2_with fail;refine(zvb _ zs n _ HZ.o hn).mono ?_;rintro e w' ⟨r,rfl,hr,hw'⟩;subst w';have R:=zaa hr;clear hr;go_wp2;go_ret;exact⟨zag R.o,rfl⟩
theorem Rd.take{w:World}{size:Nat}{ao:Option Addr}{n c:Nat}{xs:List Value}{m:Nat}(h:Rd w size (.slice ao n c) n xs)(hm:m<=n):Rd w size (.slice ao m c) m (xs.take (m*size)):=by
 obtain⟨h1,ao',cap,e,h2,h3⟩:=h
 cases e
 have hms:m*size<=n*size:=Nat.mul_le_mul_right _ hm;refine⟨by rw[List.length_take,h1];omega,ao,c,rfl,⟨by omega,h2.2⟩,fun hp=>?_⟩;obtain⟨b,o,e1,e2,e3⟩:=h3 (by omega);exact⟨b,o,e1,e2,fun j hj=>by rw[e3 j (by omega),List.getElem?_take,if_pos hj]⟩
theorem RdI.take{w:World}{ao:Option Addr}{c:Nat}{zs:List Int}{m:Nat}(h:RdI w (.slice ao zs.length c) zs)(hm:m<=zs.length):RdI w (.slice ao m c) (zs.take m):=by
 have:=Rd.take h hm;unfold RdI
 have e:(zs.take m).length=m:=by rw[List.length_take];omega
 have e2:zdb (zs.take m)=(zdb zs).take (m*1):=by rw[Nat.mul_one];simp[zdb,List.map_take]
 rw[e,e2];exact this
def zfk(zs:List Int):Bool:=decide (∀ k (h:k<zs.length),zha (zs.take k) zs[k]=false)
theorem yaak{zs:List Int}(h:∀ k (h:k<zs.length),zha (zs.take k) zs[k]=false):zfk zs=true:=decide_eq_true h
theorem zua{zs:List Int}{k:Nat}(hk:k<zs.length)(h:zha (zs.take k) zs[k]=true):zfk zs=false:=decide_eq_false (fun x=>by have:=x k hk;rw[h]at this;cases this)
theorem zlx(v:Value)(zs:List Int)(w:World)(h:RdI w v zs)(hn:zs.length<=1048576) :
  zC 64 #[v] w fun e w'=>e=.returned (.bool (zfk zs))/\w'=w:=by
 have HR:=zaa h;obtain⟨aZ,cZ,rfl,hcap,hcZ⟩:=h.shape;have HZ:=zaa hcZ;clear h hcZ;go_enter Tryz.func64,Tryz.ntmps64;go_wp2
 go_loop [3,4,7] (fun _ _ i=>∃ k:Nat,k<=zs.length/\i=.I k/\Hid (∀ j (h:j<zs.length),j<k->zha (zs.take j) zs[j]=false)) (fun _ _ i=>zs.length-(intOf i).toNat)
 case atStart=>exact⟨0,by omega,rfl,fun j h a=>absurd a (by omega)⟩
 case round =>
  obtain⟨k,hk,rfl,H⟩:=hrel
  by_cases hlt:k<zs.length
  ·obtain⟨b,o,rfl,hbl,hcell⟩:=HZ.o (by omega);have hck:=hcell k hlt;have RT:=zaa (RdI.take HR.o hk);have LT:=zaa (show(zs.take k).length<=1048576 by rw[List.length_take];omega);clear hcell
   cases q:zha (zs.take k) zs[k] with
   | false =>
    have H':Hid (∀ j (h:j<zs.length),j<k+1->zha (zs.take j) zs[j]=false):=fun j h a=>by
     by_cases e:j=k
     ·subst e;exact q
     ·exact H.o j h (by omega)
    have Q:=zaa q;clear q H;generalize zs[k]=z at hck Q;go_wp2_with (go_at_call 119;refine(zhc _ (zs.take k) z _ RT.o LT.o).mono ?_;rw[Q.o];rintro e w' ⟨rfl,rfl⟩)
    go_round
    case rel=>exact⟨k+1,by omega,by go_num,H'⟩
    case measure=>simp[intOf];omega
   | true =>
    have E:=zaa (zua hlt q);have Q:=zaa q;clear q H;generalize zs[k]=z at hck Q;go_wp2_with (go_at_call 119;refine(zhc _ (zs.take k) z _ RT.o LT.o).mono ?_;rw[Q.o];rintro e w' ⟨rfl,rfl⟩);go_ret;exact⟨zag E.o.symm,rfl⟩
  ·have E:=zaa (yaak (fun j h=>H.o j h (by omega)));clear H;go_wp2;go_ret;exact⟨zag E.o.symm,rfl⟩
theorem eq8(a0 a1 a2 a3 a4 a5 a6 a7 b0 b1 b2 b3 b4 b5 b6 b7:Int)(w:World):(Op.equalIn 9999 85 (.agg #[.I a0,.I a1,.I a2,.I a3,.I a4,.I a5,.I a6,.I a7]) (.agg #[.I b0,.I b1,.I b2,.I b3,.I b4,.I b5,.I b6,.I b7])).run Tryz.prog w=.ok (decide ([a0,a1,a2,a3,a4,a5,a6,a7]=[b0,b1,b2,b3,b4,b5,b6,b7])) w:=by
 have U3:=Tryz.underlying3;have A3:=Tryz.isAgg3;have Z3:=Tryz.sizeOf3;rw[show(9999:Nat)=9998+1 from rfl,Op.equalIn];simp only[Sem.run_bind,run_underlying Tryz.underlying85,Result.andThen_ok];simp only[Std.Legacy.Range.forIn_eq_forIn_range',Std.Legacy.Range.size,Nat.sub_zero,Nat.add_sub_cancel,Nat.div_one,List.range'_succ,List.range'_zero,List.forIn_cons,List.forIn_nil];go_simp
 by_cases h0:a0=b0
 case neg=>simp[h0]
 by_cases h1:a1=b1
 case neg=>simp[h0,h1]
 by_cases h2:a2=b2
 case neg=>simp[h0,h1,h2]
 by_cases h3:a3=b3
 case neg=>simp[h0,h1,h2,h3]
 by_cases h4:a4=b4
 case neg=>simp[h0,h1,h2,h3,h4]
 by_cases h5:a5=b5
 case neg=>simp[h0,h1,h2,h3,h4,h5]
 by_cases h6:a6=b6
 case neg=>simp[h0,h1,h2,h3,h4,h5,h6]
 by_cases h7:a7=b7
 case neg=>simp[h0,h1,h2,h3,h4,h5,h6,h7]
 simp[h0,h1,h2,h3,h4,h5,h6,h7]
def zty(xs ys:List Int):Bool:=decide (xs=ys)
theorem yajn{xs ys:List Int}(h:xs=ys):zty xs ys=true:=decide_eq_true h
theorem yajf{xs ys:List Int}(h:¬ xs=ys):zty xs ys=false:=decide_eq_false h
@[go_sem ↓] theorem yawj(k s l a0 a1 a2 a3 a4 a5 a6 a7 k' s' l' b0 b1 b2 b3 b4 b5 b6 b7:Int)(w:World):(Op.equalIn 10000 87 (.agg #[.I k,.I s,.I l,.I a0,.I a1,.I a2,.I a3,.I a4,.I a5,.I a6,.I a7]) (.agg #[.I k',.I s',.I l',.I b0,.I b1,.I b2,.I b3,.I b4,.I b5,.I b6,.I b7])).run Tryz.prog w=.ok (zty [k,s,l,a0,a1,a2,a3,a4,a5,a6,a7] [k',s',l',b0,b1,b2,b3,b4,b5,b6,b7]) w:=by
 have e8:=eq8 a0 a1 a2 a3 a4 a5 a6 a7 b0 b1 b2 b3 b4 b5 b6 b7 w;unfold zty
 by_cases g0:k=k'
 case neg=>go_simp
 by_cases g1:s=s'
 case neg=>go_simp
 by_cases g2:l=l'
 case neg=>go_simp
 subst g0 g1 g2;go_simp
 split
 ·rename_i h;rw[h]
 ·rename_i h;rw[Bool.not_eq_false]at h;rw[h]
theorem zyk(x:Ino)(w:World)(hT:TS w)(hE:ED w)(hr:x.R):zC 113 #[x.v] w fun e w'=>e=.returned (.bool (zdp x))/\zB w w':=by
 have hv:x.v=.agg x.cs.toArray:=rfl;have BW:Hid (zB w (w.alloc (.cells x.cs.toArray 87))):=zR.alloc zL _
 have CA:Hid (∀ j,(w.alloc (.cells x.cs.toArray 87)).cell? ⟨w.heap.size,j,none⟩=x.cs[j]?):=fun j=>(zak (xs:=x.cs) (zah rfl) j).1
 have T:Hid (TS (w.alloc (.cells x.cs.toArray 87))):=hT.below BW.o;obtain⟨d0,d1,d2,d3,d4,d5,d6,d7,d8,d9,d10⟩:=ED.cells (hE.below BW.o);obtain⟨p0,p1,p2,p3,p4,p5,p6,p7,p8,p9,p10⟩:=Ino.all CA.o;have LF:=zaa (fun w1 (h:TS w1)=>yaca x w1 h hr);rw[hv];clear hT hE hr CA
 by_cases h0:x.ns=[0,0,0,0,0,0,0,0,0,0,0]
 ·have E:=zaa (yahi h0);have q1:zty [x.kind,x.size,x.links,x.m0,x.m1,x.m2,x.m3,x.m4,x.m5,x.m6,x.m7] [0,0,0,0,0,0,0,0,0,0,0]=true:=yajn h0;clear h0;go_enter Tryz.func113,Tryz.ntmps113;go_wp2;go_ret;exact⟨zag E.o.symm,BW.o⟩
 have q1:zty [x.kind,x.size,x.links,x.m0,x.m1,x.m2,x.m3,x.m4,x.m5,x.m6,x.m7] [0,0,0,0,0,0,0,0,0,0,0]=false:=yajf h0
 by_cases h1:x.ns=[2,0,1,0,0,0,0,0,0,0,0]
 ·have E:=zaa (yarf h1);have q2:zty [x.kind,x.size,x.links,x.m0,x.m1,x.m2,x.m3,x.m4,x.m5,x.m6,x.m7] [2,0,1,0,0,0,0,0,0,0,0]=true:=yajn h1;clear h0 h1;go_enter Tryz.func113,Tryz.ntmps113;go_wp2;go_ret;exact⟨zag E.o.symm,BW.o⟩
 have q2:zty [x.kind,x.size,x.links,x.m0,x.m1,x.m2,x.m3,x.m4,x.m5,x.m6,x.m7] [2,0,1,0,0,0,0,0,0,0,0]=false:=yajf h1;have E:=zaa (yani h0 h1);clear h0 h1;go_enter Tryz.func113,Tryz.ntmps113;go_wp2_with fail;refine(LF.o _ T.o).mono ?_;rw[E.o];rintro e w1 ⟨rfl,hb1⟩;have B1:=zaa (zab BW.o hb1 BW.o.size);clear hb1;go_wp2;go_ret;exact⟨rfl,B1.o⟩
end Go.Proofs.YtogcbbkhnpmgeaaGreatDoor
