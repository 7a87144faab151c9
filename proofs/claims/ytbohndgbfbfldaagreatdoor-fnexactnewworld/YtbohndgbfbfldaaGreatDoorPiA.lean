/- One inode that is right, by the program. -/
import Derived.Test.YtbohndgbfbfldaaGreatDoorZAF
import Derived.Test.YtbohndgbfbfldaaGreatDoorZAE
import Derived.Test.YtbohndgbfbfldaaGreatDoorZAG
set_option maxHeartbeats 2000000
namespace Go.Proofs.YtbohndgbfbfldaaGreatDoor
open Go.RowKit
def Ino.ns (x:Ino):List Int:=[x.kind,x.size,x.links,x.m0,x.m1,x.m2,x.m3,x.m4,x.m5,x.m6,x.m7]
def zol (zs:List Int):Bool:=decide (∀ k (h:k < zs.length),zfp zs[k]=true)
def zsc (zs:List Int):Bool:=decide (∀ k (h:k < zs.length),(zs[k] == 0)=true)
def zeq (x:Ino):Bool:=decide (x.kind=1) && (decide (1≤x.links∧x.links≤24) && (decide (0≤x.size∧x.size < 9) && (zol (x.map.take x.size.toNat) && zsc (x.map.drop x.size.toNat))))
theorem ztz:zfp 0=true:=by decide
theorem zwh {x:Ino} (h:x.ns=[0,0,0,0,0,0,0,0,0,0,0]):zga x=true:=by
 obtain ⟨k,s,l,m0,m1,m2,m3,m4,m5,m6,m7⟩:=x;simp only[Ino.ns,List.cons.injEq,and_true] at h;obtain ⟨rfl,rfl,rfl,rfl,rfl,rfl,rfl,rfl,rfl,rfl,rfl⟩:=h;decide
theorem yabs {x:Ino} (h:x.ns=[2,0,1,0,0,0,0,0,0,0,0]):zga x=true:=by
 obtain ⟨k,s,l,m0,m1,m2,m3,m4,m5,m6,m7⟩:=x;simp only[Ino.ns,List.cons.injEq,and_true] at h;obtain ⟨rfl,rfl,rfl,rfl,rfl,rfl,rfl,rfl,rfl,rfl,rfl⟩:=h;decide
theorem zuz {x:Ino} (h0:0≤x.size) (h8:x.size≤8):mapB x.map x.size=(zol (x.map.take x.size.toNat) && zsc (x.map.drop x.size.toNat)):=by
 rw[Bool.eq_iff_iff,Bool.and_eq_true];have hl:x.map.length=8:=rfl
 have hg:∀ i (h:i < 8),x.map.getD i 0=x.map[i]'(by rw[hl];exact h):=fun i h=>by
  rw[List.getD_eq_getElem?_getD,List.getElem?_eq_getElem (by rw[hl];exact h)];rfl
 constructor
 ·intro h;have h:=zpt h;refine ⟨decide_eq_true fun k hk=>?_,decide_eq_true fun k hk=>?_⟩
  ·rw[List.length_take,hl] at hk;have:=h k (by omega);rw[hg k (by omega)] at this;rw[List.getElem_take];unfold entB at this;exact (Bool.and_eq_true _ _ ▸ this:_∧_).1
  ·rw[List.length_drop,hl] at hk;have:=h (x.size.toNat+k) (by omega);rw[hg _ (by omega)] at this;rw[List.getElem_drop];unfold entB at this;have:=(Bool.and_eq_true _ _ ▸ this:_∧_).2;rw[Bool.or_eq_true] at this
   rcases this with h1 | h1
   ·exact h1
   ·have:=of_decide_eq_true h1;omega
 ·rintro ⟨h1,h2⟩;have h1:=of_decide_eq_true h1;have h2:=of_decide_eq_true h2
  refine yabo fun i hi=>?_
  rw[hg i hi];unfold entB;rw[Bool.and_eq_true,Bool.or_eq_true]
  by_cases hs:i < x.size.toNat
  ·have:=h1 i (by rw[List.length_take,hl];omega);rw[List.getElem_take] at this;exact ⟨this,.inr (decide_eq_true (by omega))⟩
  ·have:=h2 (i - x.size.toNat) (by rw[List.length_drop,hl];omega);rw[List.getElem_drop] at this
   have e:x.size.toNat+(i - x.size.toNat)=i:=by omega
   simp only[e] at this;exact ⟨by rw[eq_of_beq this];exact ztz,.inl this⟩
theorem zrs {x:Ino} (h0:x.size=0) (h:mapB x.map x.size=true):x.map=[0,0,0,0,0,0,0,0]:=by
 have h:=zpt h
 have g:∀ i,i < 8→x.map.getD i 0=0:=fun i hi=>by
  have:=h i hi;unfold entB at this;have:=(Bool.and_eq_true _ _ ▸ this:_∧_).2;rw[Bool.or_eq_true] at this
  rcases this with h1 | h1
  ·exact eq_of_beq h1
  ·have:=of_decide_eq_true h1;omega
 have a0:=g 0 (by omega);have a1:=g 1 (by omega);have a2:=g 2 (by omega);have a3:=g 3 (by omega);have a4:=g 4 (by omega);have a5:=g 5 (by omega);have a6:=g 6 (by omega);have a7:=g 7 (by omega);simp[Ino.map] at *;exact ⟨a0,a1,a2,a3,a4,a5,a6,a7⟩
theorem yaad {x:Ino} (h0:¬ x.ns=[0,0,0,0,0,0,0,0,0,0,0]) (h1:¬ x.ns=[2,0,1,0,0,0,0,0,0,0,0]):zeq x=zga x:=by
 by_cases hk:x.kind=1
 ·unfold zeq zga;rw[decide_eq_true hk,decide_eq_true (show 0≤x.kind∧x.kind≤2 by omega)];simp only[Bool.true_and]
  by_cases hs:0≤x.size∧x.size≤8
  ·rw[decide_eq_true hs,decide_eq_true (show 0≤x.size∧x.size < 9 by omega),← zuz hs.1 hs.2]
   have e:zsf x=decide (0 < x.links):=by unfold zsf;rw[if_neg (by omega),if_neg (by omega)]
   rw[e]
   by_cases hl:1≤x.links∧x.links≤24
   ·rw[decide_eq_true hl,decide_eq_true (show 0≤x.links∧x.links≤24 by omega),decide_eq_true (show 0 < x.links by omega)];simp
   ·rw[decide_eq_false hl]
    by_cases h3:0 < x.links
    ·rw[decide_eq_false (show ¬ (0≤x.links∧x.links≤24) by omega)];simp
    ·rw[decide_eq_false h3];simp
  ·rw[decide_eq_false hs,decide_eq_false (show ¬ (0≤x.size∧x.size < 9) by omega)];simp
 ·have e1:zeq x=false:=by unfold zeq;rw[decide_eq_false hk];rfl
  rw[e1,eq_comm,Bool.eq_false_iff];intro e;unfold zga at e;simp only[Bool.and_eq_true,decide_eq_true_eq] at e;obtain ⟨a,b,c,d,f⟩:=e;unfold zsf at f
  by_cases k0:x.kind=0
  ·rw[if_pos k0] at f;obtain ⟨f1,f2,f3⟩:=of_decide_eq_true f;apply h0;simp only[Ino.map,List.cons.injEq,and_true] at f3;simp[Ino.ns,k0,f1,f2,f3]
  ·rw[if_neg k0,if_pos (by omega)] at f;simp only[Bool.and_eq_true,beq_iff_eq] at f;have f3:=zrs f.1 d;apply h1;simp only[Ino.map,List.cons.injEq,and_true] at f3
   have k2:x.kind=2:=by omega
   simp[Ino.ns,k2,f.1,f.2,f3]
def ED (w:World):Prop:=∃ t fr,w.heap[0]?=some (.cells #[.int .i64 2,.int .i64 0,.int .i64 1,.int .i64 0,.int .i64 0,.int .i64 0,.int .i64 0,.int .i64 0,.int .i64 0,.int .i64 0,.int .i64 0] t fr)
theorem ED.lt {w:World} (h:ED w):0 < w.heap.size:=by
 obtain ⟨t,fr,h⟩:=h;exact (Array.getElem?_eq_some_iff.1 h).1
theorem ED.below {w w':World} (h:ED w) (hb:Below w.heap.size w w'):ED w':=by
 have hl:=h.lt;obtain ⟨t,fr,h⟩:=h;exact ⟨t,fr,(hb.block _ hl).trans h⟩
theorem ED.cells {w:World} (h:ED w):w.cell? ⟨0,0,none⟩=some (.int .i64 2)∧w.cell? ⟨0,1,none⟩=some (.int .i64 0)∧w.cell? ⟨0,2,none⟩=some (.int .i64 1)∧w.cell? ⟨0,3,none⟩=some (.int .i64 0)∧w.cell? ⟨0,4,none⟩=some (.int .i64 0)∧w.cell? ⟨0,5,none⟩=some (.int .i64 0)∧w.cell? ⟨0,6,none⟩=some (.int .i64 0)∧w.cell? ⟨0,7,none⟩=some (.int .i64 0)∧w.cell? ⟨0,8,none⟩=some (.int .i64 0)∧w.cell? ⟨0,9,none⟩=some (.int .i64 0)∧w.cell? ⟨0,10,none⟩=some (.int .i64 0):=by
 obtain ⟨t,fr,h⟩:=h;simp[World.cell?,h]
theorem zia (n:Int) (w:World) (hT:TS w) (h0:-9223372036854775808≤n) (h1:n≤9223372036854775807):Calls Tryz.prog 209 #[.int .i64 n] w fun e w'=>e=.returned (.bool (zfp n))∧w'=w:=by
 have T:=zaa hT;clear hT
 cases c:zfp n with
 | true =>
  have E:=zaa (znq c).2.2;clear c;go_enter Tryz.func209,Tryz.ntmps209;go_wp2_with (go_at_call 195;refine (zdd _ _ T.o h0 h1).mono ?_;rw[E.o];rintro e w' ⟨rfl,rfl⟩);go_ret;exact ⟨rfl,rfl⟩
 | false =>
  have E:=zaa (zoq c).2.2;clear c;go_enter Tryz.func209,Tryz.ntmps209;go_wp2_with (go_at_call 195;refine (zdd _ _ T.o h0 h1).mono ?_;rw[E.o];rintro e w' ⟨rfl,rfl⟩);go_ret;exact ⟨rfl,rfl⟩
theorem zfb (n:Int) (w:World):Calls Tryz.prog 210 #[.int .i64 n] w fun e w'=>e=.returned (.bool (n == 0))∧w'=w:=by
 go_enter Tryz.func210,Tryz.ntmps210;go_wp2;go_ret;exact ⟨rfl,rfl⟩
theorem zyp {zs:List Int} (h:∀ k (h:k < zs.length),zfp zs[k]=true):zol zs=true:=decide_eq_true h
theorem zvd {zs:List Int} {k:Nat} (hk:k < zs.length) (h:zfp zs[k]=false):zol zs=false:=decide_eq_false (fun x=>by have:=x k hk;rw[h] at this;cases this)
theorem zzd {zs:List Int} (h:∀ k (h:k < zs.length),(zs[k] == 0)=true):zsc zs=true:=decide_eq_true h
theorem ztg {zs:List Int} {k:Nat} (hk:k < zs.length) (h:(zs[k] == 0)=false):zsc zs=false:=decide_eq_false (fun x=>by have:=x k hk;rw[h] at this;cases this)
theorem zeo (v:Value) (zs:List Int) (w:World) (h:RdI w v zs) (hn:zs.length≤2147483648) (hT:TS w) (hr:∀ k (h:k < zs.length),-9223372036854775808≤zs[k]∧zs[k]≤9223372036854775807) :
  Calls Tryz.prog 137 #[v,.func (.func 209) #[] #[]] w fun e w'=>e=.returned (.bool (zol zs))∧w'=w:=by
 have T:=zaa hT;have HR:=zaa hr;clear hT hr;obtain ⟨ao,cap,rfl,_,hc⟩:=h.shape;clear h;go_enter Tryz.func137,Tryz.ntmps137;go_wp2
 go_loop [6,9] (fun _ i=>∃ k:Nat,k≤zs.length∧i=.int .i64 k∧Hid (∀ j (h:j < zs.length),j < k→zfp zs[j]=true)) (fun _ i=>zs.length - (intOf i).toNat)
 case atStart=>exact ⟨0,by omega,rfl,fun j h a=>absurd a (by omega)⟩
 case round =>
  obtain ⟨k,hk,rfl,H⟩:=hrel
  by_cases hlt:k < zs.length
  ·obtain ⟨b,o,rfl,hbl,hcell⟩:=hc (by omega);have hck:=hcell k hlt;obtain ⟨r0,r1⟩:=HR.o k hlt;clear hcell hc
   by_cases q:zfp zs[k]=true
   ·go_wp2_with (go_at_call 209;refine (zia _ _ T.o r0 r1).mono ?_;rintro e w' ⟨rfl,rfl⟩)
    go_round
    case rel =>
     refine ⟨k+1,by omega,by go_num,fun j h a=>?_⟩
     by_cases e:j=k
     ·subst e;exact q
     ·exact H.o j h (by omega)
    case measure=>simp[intOf];omega
   ·have q':zfp zs[k]=false:=by simpa using q
    have E:=zaa (zvd hlt q');go_wp2_with (go_at_call 209;refine (zia _ _ T.o r0 r1).mono ?_;rintro e w' ⟨rfl,rfl⟩);go_ret;exact ⟨zad E.o.symm,rfl⟩
  ·have E:=zaa (zyp (fun j h=>H.o j h (by omega)));clear H;go_wp2;go_ret;exact ⟨zad E.o.symm,rfl⟩
theorem zgz (v:Value) (zs:List Int) (w:World) (h:RdI w v zs) (hn:zs.length≤2147483648) :
  Calls Tryz.prog 137 #[v,.func (.func 210) #[] #[]] w fun e w'=>e=.returned (.bool (zsc zs))∧w'=w:=by
 obtain ⟨ao,cap,rfl,_,hc⟩:=h.shape;clear h;go_enter Tryz.func137,Tryz.ntmps137;go_wp2
 go_loop [6,9] (fun _ i=>∃ k:Nat,k≤zs.length∧i=.int .i64 k∧Hid (∀ j (h:j < zs.length),j < k→(zs[j] == 0)=true)) (fun _ i=>zs.length - (intOf i).toNat)
 case atStart=>exact ⟨0,by omega,rfl,fun j h a=>absurd a (by omega)⟩
 case round =>
  obtain ⟨k,hk,rfl,H⟩:=hrel
  by_cases hlt:k < zs.length
  ·obtain ⟨b,o,rfl,hbl,hcell⟩:=hc (by omega);have hck:=hcell k hlt;clear hcell hc
   by_cases q:(zs[k] == 0)=true
   ·go_wp2_with (go_at_call 210;refine (zfb _ _).mono ?_;rintro e w' ⟨rfl,rfl⟩)
    go_round
    case rel =>
     refine ⟨k+1,by omega,by go_num,fun j h a=>?_⟩
     by_cases e:j=k
     ·subst e;exact q
     ·exact H.o j h (by omega)
    case measure=>simp[intOf];omega
   ·have q':(zs[k] == 0)=false:=by simpa using q
    have E:=zaa (ztg hlt q');go_wp2_with (go_at_call 210;refine (zfb _ _).mono ?_;rintro e w' ⟨rfl,rfl⟩);go_ret;exact ⟨zad E.o.symm,rfl⟩
  ·have E:=zaa (zzd (fun j h=>H.o j h (by omega)));clear H;go_wp2;go_ret;exact ⟨zad E.o.symm,rfl⟩
end Go.Proofs.YtbohndgbfbfldaaGreatDoor
