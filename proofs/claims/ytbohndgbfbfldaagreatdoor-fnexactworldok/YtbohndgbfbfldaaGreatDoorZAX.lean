/- Several texts laid together: ImK, PiG. -/
import Derived.Test.YtbohndgbfbfldaaGreatDoorZAG
import Derived.Test.YtbohndgbfbfldaaGreatDoorZAH
set_option maxRecDepth 100000
set_option maxHeartbeats 2000000
namespace Go.Proofs.YtbohndgbfbfldaaGreatDoor
open Go.RowKit
def zjp (zs:List Int) (n:Int):Bool:=zs.contains n
theorem zvv {zs:List Int} {n:Int} (h:∀ j (h:j < zs.length),¬ zs[j]=n):zjp zs n=false:=by
 unfold zjp;rw[List.contains_eq_any_beq,List.any_eq_false];intro z hz;obtain ⟨j,hj,rfl⟩:=List.getElem_of_mem hz;simp only[beq_iff_eq]
 exact fun e=>h j hj e.symm
theorem zjr (v:Value) (zs:List Int) (n:Int) (w:World) (h:RdI w v zs) (hn:zs.length≤1048576) :
  Calls Tryz.prog 175 #[v,.int .i64 n] w fun e w'=>e=.returned (.bool (zjp zs n))∧w'=w:=by
 obtain ⟨aZ,cZ,rfl,_,hcZ⟩:=h.shape;have HZ:=zaa hcZ;clear h hcZ;go_enter Tryz.func175,Tryz.ntmps175;go_wp2
 go_loop [5] (fun i=>∃ k:Nat,k≤zs.length∧i=.int .i64 k∧Hid (∀ j (h:j < zs.length),j < k→¬ zs[j]=n)) (fun i=>zs.length - (intOf i).toNat)
 case atStart=>exact ⟨0,by omega,rfl,fun j h a=>absurd a (by omega)⟩
 case round =>
  obtain ⟨k,hk,rfl,H⟩:=hrel
  by_cases hlt:k < zs.length
  ·obtain ⟨b,o,rfl,hbl,hcell⟩:=HZ.o (by omega);have d0:=hcell k hlt
   have k0:(0:Int)≤(k:Int):=by omega
   have k1:(k:Int) < (zs.length:Int):=by omega
   have HY:=zaa (fun e:zs[k]=n=>show zjp zs n=true by unfold zjp;rw[← e];exact List.contains_iff_mem.2 (List.getElem_mem hlt))
   have HX:=zaa (fun (e:¬ zs[k]=n) j (h:j < zs.length) (a:j < k+1)=>show ¬ zs[j]=n by
    by_cases q:j=k
    ·subst q;exact e
    ·exact H.o j h (by omega))
   clear hcell;generalize zs[k]=z at *
   by_cases q:z=n
   ·have q1:(z == n)=true:=beq_iff_eq.2 q;have E:=zaa (HY.o q);clear q HX HY;go_wp2;go_ret;exact ⟨zac E.o.symm,rfl⟩
   ·have q1:(z == n)=false:=beq_eq_false_iff_ne.2 q;have E:=zaa (HX.o q);clear q HX HY;go_wp2
    go_round
    case rel=>exact ⟨k+1,by omega,by go_num,E⟩
    case measure=>simp[intOf];omega
  ·obtain rfl:k=zs.length:=by omega
   have E:=zaa (zvv (fun j h=>H.o j h h));go_wp2;go_ret;exact ⟨zac E.o.symm,rfl⟩
theorem zju (b:Bool) (w:World):Calls Tryz.prog 172 #[.bool b] w fun e w'=>e=.returned (.int .i64 (if b=true then 1 else 0))∧w'=w:=by
 cases b
 all_goals
  go_enter Tryz.func172,Tryz.ntmps172;go_wp2;go_ret;exact ⟨rfl,rfl⟩
def upD (ds:List Den) (c:Int):Int:=((ds.find? fun x=>x.child == c).map Den.dir).getD (-1)
theorem yaea {ds:List Den} {c:Int} (h:∀ j (h:j < ds.length),¬ ds[j].child=c):upD ds c=-1:=by
 unfold upD;rw[List.find?_eq_none.2]
 ·rfl
 ·intro x hx;obtain ⟨j,hj,rfl⟩:=List.getElem_of_mem hx;simp only[beq_iff_eq];exact h j hj
theorem yabj {ds:List Den} {c:Int} {k:Nat} (hk:k < ds.length) (h:∀ j (h:j < ds.length),j < k→¬ ds[j].child=c) (e:ds[k].child=c):upD ds c=ds[k].dir:=by
 unfold upD
 have:ds.find? (fun x=>x.child == c)=some ds[k]:=List.find?_eq_some_iff_getElem.2 ⟨beq_iff_eq.2 e,k,hk,rfl,fun j hj=>by
  have:=h j (by omega) hj
  simp[this]⟩
 rw[this];rfl
theorem ztg (v:Value) (ws:List Ino) (ps:List Den) (c:Int) (w:World) (h:RdIm w v ws ps) (hn:ps.length≤1048576) :
  Calls Tryz.prog 201 #[v,.int .i64 c] w fun e w'=>e=.returned (.int .i64 (upD ps c))∧Below w.heap.size w w':=by
 obtain ⟨vW,vP,rfl,h1,h2⟩:=h;obtain ⟨aW,cW,rfl,_⟩:=h1.shape;obtain ⟨aP,cP,rfl,_,hcP⟩:=h2.shape;have HZ:=zaa hcP;clear h1 h2 hcP
 obtain ⟨W,hW⟩:∃ W,W=w.alloc (.cells #[.slice aW ws.length cW,.slice aP ps.length cP] 123):=⟨_,rfl⟩
 have CA:Hid (∀ w',Below W.heap.size W w'→w'.cell? ⟨w.heap.size,1,none⟩=some (.slice aP ps.length cP)):=fun w' hb=>by
  have:w'.heap[w.heap.size]?=some (.cells #[.slice aW ws.length cW,.slice aP ps.length cP] 123 (0,0)):=(hb.block _ (by rw[hW];simp)).trans (by rw[hW];exact zah rfl);exact (zae this).2.1
 have BW:Hid (Below w.heap.size w W):=by rw[hW];exact (Below.refl _ _).alloc (Nat.le_refl _) _
 have hz:w.heap.size≤W.heap.size:=BW.o.size;go_enter Tryz.func201,Tryz.ntmps201;go_wp2;rw[← hW];clear hW
 go_loopw [5] (fun i wr=>∃ k:Nat,k≤ps.length∧i=.int .i64 k∧Hid (Below W.heap.size W wr∧∀ j (h:j < ps.length),j < k→¬ ps[j].child=c)) (fun i _=>ps.length - (intOf i).toNat)
 case atStart=>exact ⟨0,by omega,rfl,Below.refl _ _,fun j h a=>absurd a (by omega)⟩
 case round =>
  obtain ⟨k,hk,rfl,J⟩:=hrel;have x1:=CA.o wr J.o.1
  by_cases hlt:k < ps.length
  ·obtain ⟨b,o,rfl,hbl,hcell⟩:=HZ.o (by omega);have BR:=zab BW.o J.o.1 hz;obtain ⟨c0,c1,c2⟩:=hcell k hlt;have d0:=(BR.cell (p:=⟨b,o+k*3,none⟩) hbl).trans c0;have d2:=(BR.cell (p:=⟨b,o+k*3+2,none⟩) hbl).trans c2;have B:=zaa BR
   have k0:(0:Int)≤(k:Int):=by omega
   have k1:(k:Int) < (ps.length:Int):=by omega
   have HY:=zaa (fun e:ps[k].child=c=>yabj hlt J.o.2 e)
   have HX:=zaa (fun (e:¬ ps[k].child=c) j (h:j < ps.length) (a:j < k+1)=>show ¬ ps[j].child=c by
    by_cases q:j=k
    ·subst q;exact e
    ·exact J.o.2 j h (by omega))
   clear hcell c0 c1 c2 BR;generalize ps[k].child=z at *;generalize ps[k].dir=y at *
   by_cases q:z=c
   ·have q1:(z == c)=true:=beq_iff_eq.2 q;have E:=zaa (HY.o q);clear q HX HY;go_wp2;go_ret;exact ⟨zem E.o.symm,B.o⟩
   ·have q1:(z == c)=false:=beq_eq_false_iff_ne.2 q
    have E:Hid (Below W.heap.size W wr∧∀ j (h:j < ps.length),j < k+1→¬ ps[j].child=c):=⟨J.o.1,HX.o q⟩
    clear q HX HY;go_wp2
    go_roundw
    case rel=>exact ⟨k+1,by omega,by go_num,E⟩
    case measure=>simp[intOf];omega
  ·obtain rfl:k=ps.length:=by omega
   have E:=zaa (yaea (fun j h=>J.o.2 j h h));go_wp2;go_ret;exact ⟨zem E.o.symm,zab BW.o J.o.1 hz⟩
def zdc (ds:List Den):Nat→Int→Bool
 | 0,_=>false
 | n+1,d=>if d=0 then true else if upD ds d < 0 then false else zdc ds n (upD ds d)
theorem zly (v:Value) (ws:List Ino) (ps:List Den) (c:Int) (w:World) (h:RdIm w v ws ps) (hn:ps.length≤1048576) :
  Calls Tryz.prog 173 #[v,.int .i64 c] w fun e w'=>e=.returned (.bool (zdc ps 16 c))∧Below w.heap.size w w':=by
 have HR:=zaa h;obtain ⟨vW,vP,rfl,h1,h2⟩:=h;obtain ⟨aW,cW,rfl,_⟩:=h1.shape;obtain ⟨aP,cP,rfl,_,hcP⟩:=h2.shape;clear h1 h2 hcP
 obtain ⟨W,hW⟩:∃ W,W=w.alloc (.cells #[.slice aW ws.length cW,.slice aP ps.length cP] 123):=⟨_,rfl⟩
 have CA:Hid (∀ w',Below W.heap.size W w'→w'.cell? ⟨w.heap.size,0,none⟩=some (.slice aW ws.length cW)∧w'.cell? ⟨w.heap.size,1,none⟩=some (.slice aP ps.length cP)):=fun w' hb=>by
  have:w'.heap[w.heap.size]?=some (.cells #[.slice aW ws.length cW,.slice aP ps.length cP] 123 (0,0)):=(hb.block _ (by rw[hW];simp)).trans (by rw[hW];exact zah rfl);exact ⟨(zae this).1,(zae this).2.1⟩
 have BW:Hid (Below w.heap.size w W):=by rw[hW];exact (Below.refl _ _).alloc (Nat.le_refl _) _
 have hz:w.heap.size≤W.heap.size:=BW.o.size;have LU:=zaa (fun d w1 h=>ztg (.agg #[.slice aW ws.length cW,.slice aP ps.length cP]) ws ps d w1 h hn);go_enter Tryz.func173,Tryz.ntmps173;go_wp2;rw[← hW];clear hW
 go_loopw [1,5] (fun d i wr=>∃ (k:Nat) (z:Int),k≤16∧i=.int .i64 k∧d=.int .i64 z∧Hid (Below W.heap.size W wr∧zdc ps 16 c=zdc ps (16 - k) z)) (fun _ i _=>16 - (intOf i).toNat)
 case atStart=>exact ⟨0,c,by omega,rfl,rfl,Below.refl _ _,rfl⟩
 case round =>
  obtain ⟨k,z,hk,rfl,rfl,J⟩:=hrel;obtain ⟨x0,x1⟩:=CA.o wr J.o.1
  by_cases hlt:k < 16
  ·have ES:=zaa (show zdc ps (16 - k) z=if z=0 then true else if upD ps z < 0 then false else zdc ps (16 - (k+1)) (upD ps z) by
    rw[show 16 - k=(16 - (k+1))+1 by omega];rfl)
   have B:=zaa (zab BW.o J.o.1 hz)
   by_cases q:z=0
   ·subst q;have E:=zaa (show zdc ps 16 c=true by rw[J.o.2,ES.o,if_pos rfl]);go_wp2;go_ret;exact ⟨zac E.o.symm,B.o⟩
   ·have q1:(z == 0)=false:=beq_eq_false_iff_ne.2 q;have R:=zaa (HR.o.below B.o)
    by_cases r:upD ps z < 0
    ·have E:=zaa (show zdc ps 16 c=false by rw[J.o.2,ES.o,if_neg q,if_pos r]);go_wp2_with fail;refine (LU.o _ _ R.o).mono ?_;rintro e w1 ⟨rfl,hb1⟩;have B1:=zaa (zab B.o hb1 B.o.size);clear hb1;go_wp2;go_ret;exact ⟨zac E.o.symm,B1.o⟩
    ·have E:=zaa (show zdc ps 16 c=zdc ps (16 - (k+1)) (upD ps z) by rw[J.o.2,ES.o,if_neg q,if_neg r]);go_wp2_with fail;refine (LU.o _ _ R.o).mono ?_;rintro e w1 ⟨rfl,hb1⟩;have B1:=zaa (zab J.o.1 hb1 J.o.1.size);clear hb1;go_wp2
     go_roundw
     case rel=>exact ⟨k+1,_,by omega,by go_num,rfl,B1.o,E.o⟩
     case measure=>simp[intOf];omega
  ·obtain rfl:k=16:=by omega
   have E:=zaa (show zdc ps 16 c=false by rw[J.o.2];rfl);go_wp2;go_ret;exact ⟨zac E.o.symm,zab BW.o J.o.1 hz⟩
theorem yads {zs:List Int} {n:Int} {k:Nat} (hk:k < zs.length) (h:n=zs[k]):zjp zs n=true:=by
 unfold zjp;rw[List.contains_eq_any_beq,List.any_eq_true];exact ⟨zs[k],List.getElem_mem _,by rw[h];simp⟩
theorem znz (v:Value) (zs:List Int) (n:Int) (w:World) (h:RdI w v zs) (hn:zs.length≤1048576) :
  Calls Tryz.prog 208 #[v,.int .i64 n] w fun e w'=>∃ r:Int,e=.returned (.int .i64 r)∧(decide (0≤r)=zjp zs n)∧w'=w:=by
 obtain ⟨aZ,cZ,rfl,_,hcZ⟩:=h.shape;have HZ:=zaa hcZ;clear h hcZ;go_enter Tryz.func208,Tryz.ntmps208;go_wp2
 go_loop [5,8] (fun _ i=>∃ k:Nat,k≤zs.length∧i=.int .i64 k∧Hid (∀ j (h:j < zs.length),j < k→¬ zs[j]=n)) (fun _ i=>zs.length - (intOf i).toNat)
 case atStart=>exact ⟨0,by omega,rfl,fun j h a=>absurd a (by omega)⟩
 case round =>
  obtain ⟨k,hk,rfl,H⟩:=hrel
  by_cases hlt:k < zs.length
  ·obtain ⟨b,o,rfl,hbl,hcell⟩:=HZ.o (by omega);have hck:=hcell k hlt;clear hcell
   by_cases q:n=zs[k]
   ·have q':(n == zs[k])=true:=by rw[beq_iff_eq];exact q
    have E:=zaa (yads hlt q);clear q H;generalize zs[k]=z at *;go_wp2;go_ret;exact ⟨_,rfl,by rw[E.o];exact decide_eq_true (by omega),rfl⟩
   ·have q':(n == zs[k])=false:=by rw[beq_eq_false_iff_ne];exact q
    have H':Hid (∀ j (h:j < zs.length),j < k+1→¬ zs[j]=n):=fun j h a=>by
     by_cases e:j=k
     ·subst e;exact fun e=>q e.symm
     ·exact H.o j h (by omega)
    clear q H;generalize zs[k]=z at hck q';go_wp2
    go_round
    case rel=>exact ⟨k+1,by omega,by go_num,H'⟩
    case measure=>simp[intOf];omega
  ·have E:=zaa (zvv (fun j h=>H.o j h (by omega)));clear H;go_wp2;go_ret;exact ⟨_,rfl,by rw[E.o];rfl,rfl⟩
theorem zdo (v:Value) (zs:List Int) (n:Int) (w:World) (h:RdI w v zs) (hn:zs.length≤1048576) :
  Calls Tryz.prog 188 #[v,.int .i64 n] w fun e w'=>e=.returned (.bool (zjp zs n))∧w'=w:=by
 have HZ:=zaa h;obtain ⟨aZ,cZ,rfl,_,_⟩:=h.shape;clear h;go_enter Tryz.func188,Tryz.ntmps188;go_wp2_with fail;refine (znz _ zs n _ HZ.o hn).mono ?_;rintro e w' ⟨r,rfl,hr,hw'⟩;subst w';have R:=zaa hr;clear hr;go_wp2;go_ret;exact ⟨zac R.o,rfl⟩
theorem Rd.take {w:World} {size:Nat} {ao:Option Addr} {n c:Nat} {xs:List Value} {m:Nat} (h:Rd w size (.slice ao n c) n xs) (hm:m≤n):Rd w size (.slice ao m c) m (xs.take (m*size)):=by
 obtain ⟨h1,ao',cap,e,h2,h3⟩:=h
 cases e
 have hms:m*size≤n*size:=Nat.mul_le_mul_right _ hm;refine ⟨by rw[List.length_take,h1];omega,ao,c,rfl,⟨by omega,h2.2⟩,fun hp=>?_⟩;obtain ⟨b,o,e1,e2,e3⟩:=h3 (by omega);exact ⟨b,o,e1,e2,fun j hj=>by rw[e3 j (by omega),List.getElem?_take,if_pos hj]⟩
theorem RdI.take {w:World} {ao:Option Addr} {c:Nat} {zs:List Int} {m:Nat} (h:RdI w (.slice ao zs.length c) zs) (hm:m≤zs.length):RdI w (.slice ao m c) (zs.take m):=by
 have:=Rd.take h hm;unfold RdI
 have e:(zs.take m).length=m:=by rw[List.length_take];omega
 have e2:zdi (zs.take m)=(zdi zs).take (m*1):=by rw[Nat.mul_one];simp[zdi,List.map_take]
 rw[e,e2];exact this
def zct (zs:List Int):Bool:=decide (∀ k (h:k < zs.length),zjp (zs.take k) zs[k]=false)
theorem zrg {zs:List Int} (h:∀ k (h:k < zs.length),zjp (zs.take k) zs[k]=false):zct zs=true:=decide_eq_true h
theorem zmh {zs:List Int} {k:Nat} (hk:k < zs.length) (h:zjp (zs.take k) zs[k]=true):zct zs=false:=decide_eq_false (fun x=>by have:=x k hk;rw[h] at this;cases this)
theorem zgt (v:Value) (zs:List Int) (w:World) (h:RdI w v zs) (hn:zs.length≤1048576) :
  Calls Tryz.prog 149 #[v] w fun e w'=>e=.returned (.bool (zct zs))∧w'=w:=by
 have HR:=zaa h;obtain ⟨aZ,cZ,rfl,hcap,hcZ⟩:=h.shape;have HZ:=zaa hcZ;clear h hcZ;go_enter Tryz.func149,Tryz.ntmps149;go_wp2
 go_loop [3,4,7] (fun _ _ i=>∃ k:Nat,k≤zs.length∧i=.int .i64 k∧Hid (∀ j (h:j < zs.length),j < k→zjp (zs.take j) zs[j]=false)) (fun _ _ i=>zs.length - (intOf i).toNat)
 case atStart=>exact ⟨0,by omega,rfl,fun j h a=>absurd a (by omega)⟩
 case round =>
  obtain ⟨k,hk,rfl,H⟩:=hrel
  by_cases hlt:k < zs.length
  ·obtain ⟨b,o,rfl,hbl,hcell⟩:=HZ.o (by omega);have hck:=hcell k hlt;have RT:=zaa (RdI.take HR.o hk);have LT:=zaa (show (zs.take k).length≤1048576 by rw[List.length_take];omega);clear hcell
   cases q:zjp (zs.take k) zs[k] with
   | false =>
    have H':Hid (∀ j (h:j < zs.length),j < k+1→zjp (zs.take j) zs[j]=false):=fun j h a=>by
     by_cases e:j=k
     ·subst e;exact q
     ·exact H.o j h (by omega)
    have Q:=zaa q;clear q H;generalize zs[k]=z at hck Q;go_wp2_with (go_at_call 188;refine (zdo _ (zs.take k) z _ RT.o LT.o).mono ?_;rw[Q.o];rintro e w' ⟨rfl,rfl⟩)
    go_round
    case rel=>exact ⟨k+1,by omega,by go_num,H'⟩
    case measure=>simp[intOf];omega
   | true =>
    have E:=zaa (zmh hlt q);have Q:=zaa q;clear q H;generalize zs[k]=z at hck Q;go_wp2_with (go_at_call 188;refine (zdo _ (zs.take k) z _ RT.o LT.o).mono ?_;rw[Q.o];rintro e w' ⟨rfl,rfl⟩);go_ret;exact ⟨zac E.o.symm,rfl⟩
  ·have E:=zaa (zrg (fun j h=>H.o j h (by omega)));clear H;go_wp2;go_ret;exact ⟨zac E.o.symm,rfl⟩
end Go.Proofs.YtbohndgbfbfldaaGreatDoor
