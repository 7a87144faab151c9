/- Several texts laid together: PiA, PiB, PiG, PiC. -/
import Derived.Test.YtehnphoeplmpdaaGreatDoorZAD
import Derived.Test.YtehnphoeplmpdaaGreatDoorZAB
import Derived.Test.YtehnphoeplmpdaaGreatDoorZAE
import Derived.Test.YtehnphoeplmpdaaGreatDoorZAC
import Derived.Laws.CopyRow
import Derived.Laws.CopyOwn
set_option maxRecDepth 100000
set_option maxHeartbeats 4000000
namespace Go.Proofs.YtehnphoeplmpdaaGreatDoor
open Go.RowKit
def Ino.ns (x:Ino):List Int:=[x.kind,x.size,x.links,x.m0,x.m1,x.m2,x.m3,x.m4,x.m5,x.m6,x.m7]
def zxr (zs:List Int):Bool:=decide (∀ k (h:k < zs.length),zfu zs[k]=true)
def yaea (zs:List Int):Bool:=decide (∀ k (h:k < zs.length),(zs[k] == 0)=true)
def zjo (x:Ino):Bool:=decide (x.kind=1) && (decide (1≤x.links∧x.links≤24) && (decide (0≤x.size∧x.size < 9) && (zxr (x.map.take x.size.toNat) && yaea (x.map.drop x.size.toNat))))
theorem yaem:zfu 0=true:=by decide
theorem yafy {x:Ino} (h:x.ns=[0,0,0,0,0,0,0,0,0,0,0]):zes x=true:=by
 obtain ⟨k,s,l,m0,m1,m2,m3,m4,m5,m6,m7⟩:=x;simp only[Ino.ns,List.cons.injEq,and_true] at h;obtain ⟨rfl,rfl,rfl,rfl,rfl,rfl,rfl,rfl,rfl,rfl,rfl⟩:=h;decide
theorem yapk {x:Ino} (h:x.ns=[2,0,1,0,0,0,0,0,0,0,0]):zes x=true:=by
 obtain ⟨k,s,l,m0,m1,m2,m3,m4,m5,m6,m7⟩:=x;simp only[Ino.ns,List.cons.injEq,and_true] at h;obtain ⟨rfl,rfl,rfl,rfl,rfl,rfl,rfl,rfl,rfl,rfl,rfl⟩:=h;decide
theorem yafk {x:Ino} (h0:0≤x.size) (h8:x.size≤8):mapB x.map x.size=(zxr (x.map.take x.size.toNat) && yaea (x.map.drop x.size.toNat)):=by
 rw[Bool.eq_iff_iff,Bool.and_eq_true];have hl:x.map.length=8:=rfl
 have hg:∀ i (h:i < 8),x.map.getD i 0=x.map[i]'(by rw[hl];exact h):=fun i h=>by
  rw[List.getD_eq_getElem?_getD,List.getElem?_eq_getElem (by rw[hl];exact h)];rfl
 constructor
 ·intro h;have h:=ztm h;refine ⟨decide_eq_true fun k hk=>?_,decide_eq_true fun k hk=>?_⟩
  ·rw[List.length_take,hl] at hk;have:=h k (by omega);rw[hg k (by omega)] at this;rw[List.getElem_take];unfold entB at this;exact (Bool.and_eq_true _ _ ▸ this:_∧_).1
  ·rw[List.length_drop,hl] at hk;have:=h (x.size.toNat+k) (by omega);rw[hg _ (by omega)] at this;rw[List.getElem_drop];unfold entB at this;have:=(Bool.and_eq_true _ _ ▸ this:_∧_).2;rw[Bool.or_eq_true] at this
   rcases this with h1 | h1
   ·exact h1
   ·have:=of_decide_eq_true h1;omega
 ·rintro ⟨h1,h2⟩;have h1:=of_decide_eq_true h1;have h2:=of_decide_eq_true h2
  refine yajp fun i hi=>?_
  rw[hg i hi];unfold entB;rw[Bool.and_eq_true,Bool.or_eq_true]
  by_cases hs:i < x.size.toNat
  ·have:=h1 i (by rw[List.length_take,hl];omega);rw[List.getElem_take] at this;exact ⟨this,.inr (decide_eq_true (by omega))⟩
  ·have:=h2 (i - x.size.toNat) (by rw[List.length_drop,hl];omega);rw[List.getElem_drop] at this
   have e:x.size.toNat+(i - x.size.toNat)=i:=by omega
   simp only[e] at this;exact ⟨by rw[eq_of_beq this];exact yaem,.inl this⟩
theorem yadj {x:Ino} (h0:x.size=0) (h:mapB x.map x.size=true):x.map=[0,0,0,0,0,0,0,0]:=by
 have h:=ztm h
 have g:∀ i,i < 8→x.map.getD i 0=0:=fun i hi=>by
  have:=h i hi;unfold entB at this;have:=(Bool.and_eq_true _ _ ▸ this:_∧_).2;rw[Bool.or_eq_true] at this
  rcases this with h1 | h1
  ·exact eq_of_beq h1
  ·have:=of_decide_eq_true h1;omega
 have a0:=g 0 (by omega);have a1:=g 1 (by omega);have a2:=g 2 (by omega);have a3:=g 3 (by omega);have a4:=g 4 (by omega);have a5:=g 5 (by omega);have a6:=g 6 (by omega);have a7:=g 7 (by omega);simp[Ino.map] at *;exact ⟨a0,a1,a2,a3,a4,a5,a6,a7⟩
theorem yals {x:Ino} (h0:¬ x.ns=[0,0,0,0,0,0,0,0,0,0,0]) (h1:¬ x.ns=[2,0,1,0,0,0,0,0,0,0,0]):zjo x=zes x:=by
 by_cases hk:x.kind=1
 ·unfold zjo zes;rw[decide_eq_true hk,decide_eq_true (show 0≤x.kind∧x.kind≤2 by omega)];simp only[Bool.true_and]
  by_cases hs:0≤x.size∧x.size≤8
  ·rw[decide_eq_true hs,decide_eq_true (show 0≤x.size∧x.size < 9 by omega),← yafk hs.1 hs.2]
   have e:zjq x=decide (0 < x.links):=by unfold zjq;rw[if_neg (by omega),if_neg (by omega)]
   rw[e]
   by_cases hl:1≤x.links∧x.links≤24
   ·rw[decide_eq_true hl,decide_eq_true (show 0≤x.links∧x.links≤24 by omega),decide_eq_true (show 0 < x.links by omega)];simp
   ·rw[decide_eq_false hl]
    by_cases h3:0 < x.links
    ·rw[decide_eq_false (show ¬ (0≤x.links∧x.links≤24) by omega)];simp
    ·rw[decide_eq_false h3];simp
  ·rw[decide_eq_false hs,decide_eq_false (show ¬ (0≤x.size∧x.size < 9) by omega)];simp
 ·have e1:zjo x=false:=by unfold zjo;rw[decide_eq_false hk];rfl
  rw[e1,eq_comm,Bool.eq_false_iff];intro e;unfold zes at e;simp only[Bool.and_eq_true,decide_eq_true_eq] at e;obtain ⟨a,b,c,d,f⟩:=e;unfold zjq at f
  by_cases k0:x.kind=0
  ·rw[if_pos k0] at f;obtain ⟨f1,f2,f3⟩:=of_decide_eq_true f;apply h0;simp only[Ino.map,List.cons.injEq,and_true] at f3;simp[Ino.ns,k0,f1,f2,f3]
  ·rw[if_neg k0,if_pos (by omega)] at f;simp only[Bool.and_eq_true,beq_iff_eq] at f;have f3:=yadj f.1 d;apply h1;simp only[Ino.map,List.cons.injEq,and_true] at f3
   have k2:x.kind=2:=by omega
   simp[Ino.ns,k2,f.1,f.2,f3]
def ED (w:World):Prop:=∃ t fr,w.heap[1]?=some (.cells #[.int .i64 2,.int .i64 0,.int .i64 1,.int .i64 0,.int .i64 0,.int .i64 0,.int .i64 0,.int .i64 0,.int .i64 0,.int .i64 0,.int .i64 0] t fr)
theorem ED.lt {w:World} (h:ED w):1 < w.heap.size:=by
 obtain ⟨t,fr,h⟩:=h;exact (Array.getElem?_eq_some_iff.1 h).1
theorem ED.below {w w':World} (h:ED w) (hb:Below w.heap.size w w'):ED w':=by
 have hl:=h.lt;obtain ⟨t,fr,h⟩:=h;exact ⟨t,fr,(hb.block _ hl).trans h⟩
theorem ED.cells {w:World} (h:ED w):w.cell? ⟨1,0,none⟩=some (.int .i64 2)∧w.cell? ⟨1,1,none⟩=some (.int .i64 0)∧w.cell? ⟨1,2,none⟩=some (.int .i64 1)∧w.cell? ⟨1,3,none⟩=some (.int .i64 0)∧w.cell? ⟨1,4,none⟩=some (.int .i64 0)∧w.cell? ⟨1,5,none⟩=some (.int .i64 0)∧w.cell? ⟨1,6,none⟩=some (.int .i64 0)∧w.cell? ⟨1,7,none⟩=some (.int .i64 0)∧w.cell? ⟨1,8,none⟩=some (.int .i64 0)∧w.cell? ⟨1,9,none⟩=some (.int .i64 0)∧w.cell? ⟨1,10,none⟩=some (.int .i64 0):=by
 obtain ⟨t,fr,h⟩:=h;simp[World.cell?,h]
theorem zpa (n:Int) (w:World) (hT:TS w) (h0:-9223372036854775808≤n) (h1:n≤9223372036854775807):Calls Tryz.prog 275 #[.int .i64 n] w fun e w'=>e=.returned (.bool (zfu n))∧w'=w:=by
 have T:=zaa hT;clear hT
 cases c:zfu n with
 | true =>
  have E:=zaa (zrw c).2.2;clear c;go_enter Tryz.func275,Tryz.ntmps275;go_wp2_with (go_at_call 172;refine (zdv _ _ T.o h0 h1).mono ?_;rw[E.o];rintro e w' ⟨rfl,rfl⟩);go_ret;exact ⟨rfl,rfl⟩
 | false =>
  have E:=zaa (yaab c).2.2;clear c;go_enter Tryz.func275,Tryz.ntmps275;go_wp2_with (go_at_call 172;refine (zdv _ _ T.o h0 h1).mono ?_;rw[E.o];rintro e w' ⟨rfl,rfl⟩);go_ret;exact ⟨rfl,rfl⟩
theorem zeo (n:Int) (w:World):Calls Tryz.prog 276 #[.int .i64 n] w fun e w'=>e=.returned (.bool (n == 0))∧w'=w:=by
 go_enter Tryz.func276,Tryz.ntmps276;go_wp2;go_ret;exact ⟨rfl,rfl⟩
theorem yalx {zs:List Int} (h:∀ k (h:k < zs.length),zfu zs[k]=true):zxr zs=true:=decide_eq_true h
theorem yahq {zs:List Int} {k:Nat} (hk:k < zs.length) (h:zfu zs[k]=false):zxr zs=false:=decide_eq_false (fun x=>by have:=x k hk;rw[h] at this;cases this)
theorem yamb {zs:List Int} (h:∀ k (h:k < zs.length),(zs[k] == 0)=true):yaea zs=true:=decide_eq_true h
theorem yahe {zs:List Int} {k:Nat} (hk:k < zs.length) (h:(zs[k] == 0)=false):yaea zs=false:=decide_eq_false (fun x=>by have:=x k hk;rw[h] at this;cases this)
theorem ziw (v:Value) (zs:List Int) (w:World) (h:RdI w v zs) (hn:zs.length≤2147483648) (hT:TS w) (hr:∀ k (h:k < zs.length),-9223372036854775808≤zs[k]∧zs[k]≤9223372036854775807) :
  Calls Tryz.prog 155 #[v,.func (.func 275) #[] #[]] w fun e w'=>e=.returned (.bool (zxr zs))∧w'=w:=by
 have T:=zaa hT;have HR:=zaa hr;clear hT hr;obtain ⟨ao,cap,rfl,_,hc⟩:=h.shape;clear h;go_enter Tryz.func155,Tryz.ntmps155;go_wp2
 go_loop [6,9] (fun _ i=>∃ k:Nat,k≤zs.length∧i=.int .i64 k∧Hid (∀ j (h:j < zs.length),j < k→zfu zs[j]=true)) (fun _ i=>zs.length - (intOf i).toNat)
 case atStart=>exact ⟨0,by omega,rfl,fun j h a=>absurd a (by omega)⟩
 case round =>
  obtain ⟨k,hk,rfl,H⟩:=hrel
  by_cases hlt:k < zs.length
  ·obtain ⟨b,o,rfl,hbl,hcell⟩:=hc (by omega);have hck:=hcell k hlt;obtain ⟨r0,r1⟩:=HR.o k hlt;clear hcell hc
   by_cases q:zfu zs[k]=true
   ·go_wp2_with (go_at_call 275;refine (zpa _ _ T.o r0 r1).mono ?_;rintro e w' ⟨rfl,rfl⟩)
    go_round
    case rel =>
     refine ⟨k+1,by omega,by go_num,fun j h a=>?_⟩
     by_cases e:j=k
     ·subst e;exact q
     ·exact H.o j h (by omega)
    case measure=>simp[intOf];omega
   ·have q':zfu zs[k]=false:=by simpa using q
    have E:=zaa (yahq hlt q');go_wp2_with (go_at_call 275;refine (zpa _ _ T.o r0 r1).mono ?_;rintro e w' ⟨rfl,rfl⟩);go_ret;exact ⟨zaf E.o.symm,rfl⟩
  ·have E:=zaa (yalx (fun j h=>H.o j h (by omega)));clear H;go_wp2;go_ret;exact ⟨zaf E.o.symm,rfl⟩
theorem zna (v:Value) (zs:List Int) (w:World) (h:RdI w v zs) (hn:zs.length≤2147483648) :
  Calls Tryz.prog 155 #[v,.func (.func 276) #[] #[]] w fun e w'=>e=.returned (.bool (yaea zs))∧w'=w:=by
 obtain ⟨ao,cap,rfl,_,hc⟩:=h.shape;clear h;go_enter Tryz.func155,Tryz.ntmps155;go_wp2
 go_loop [6,9] (fun _ i=>∃ k:Nat,k≤zs.length∧i=.int .i64 k∧Hid (∀ j (h:j < zs.length),j < k→(zs[j] == 0)=true)) (fun _ i=>zs.length - (intOf i).toNat)
 case atStart=>exact ⟨0,by omega,rfl,fun j h a=>absurd a (by omega)⟩
 case round =>
  obtain ⟨k,hk,rfl,H⟩:=hrel
  by_cases hlt:k < zs.length
  ·obtain ⟨b,o,rfl,hbl,hcell⟩:=hc (by omega);have hck:=hcell k hlt;clear hcell hc
   by_cases q:(zs[k] == 0)=true
   ·go_wp2_with (go_at_call 276;refine (zeo _ _).mono ?_;rintro e w' ⟨rfl,rfl⟩)
    go_round
    case rel =>
     refine ⟨k+1,by omega,by go_num,fun j h a=>?_⟩
     by_cases e:j=k
     ·subst e;exact q
     ·exact H.o j h (by omega)
    case measure=>simp[intOf];omega
   ·have q':(zs[k] == 0)=false:=by simpa using q
    have E:=zaa (yahe hlt q');go_wp2_with (go_at_call 276;refine (zeo _ _).mono ?_;rintro e w' ⟨rfl,rfl⟩);go_ret;exact ⟨zaf E.o.symm,rfl⟩
  ·have E:=zaa (yamb (fun j h=>H.o j h (by omega)));clear H;go_wp2;go_ret;exact ⟨zaf E.o.symm,rfl⟩
theorem yaoq (w:World) (b n:Nat) (hn:n≤8):(Instr.sliceAt 131 (.pointer (some ⟨b,3,none⟩)) none (some (.int .i64 (n:Int))) none).run Tryz.prog w=.ok (.slice (some ⟨b,3,none⟩) n 8) w:=by
 have al:Tryz.prog.arrayLen 131=8:=by kernel_rfl
 rw[run_sliceAt_array_h w 131 ⟨b,3,none⟩ (by kernel_rfl) .i64 (n:Int) (by omega) (by rw[al];omega),al]
 have sz:(sizeOf (Tryz.prog.elem 131)).run Tryz.prog w=.ok 1 w:=by kernel_rfl
 rw[sz];simp[Result.andThen,slicedAt,Addr.add]
theorem yaog (w:World) (b n:Nat) (hn:n≤8):(Instr.sliceAt 131 (.pointer (some ⟨b,3,none⟩)) (some (.int .i64 (n:Int))) none none).run Tryz.prog w=.ok (.slice (some (if n=8 then ⟨b,3,none⟩ else ⟨b,3+n,none⟩)) (8 - n) (8 - n)) w:=by
 have al:Tryz.prog.arrayLen 131=8:=by kernel_rfl
 rw[run_sliceAt_array_l w 131 ⟨b,3,none⟩ (by kernel_rfl) .i64 (n:Int) (by omega) (by rw[al];omega),al]
 have sz:(sizeOf (Tryz.prog.elem 131)).run Tryz.prog w=.ok 1 w:=by kernel_rfl
 rw[sz]
 by_cases h:n=8
 ·subst h;simp[Result.andThen,slicedAt]
 ·have h':¬ 8=n:=by omega
  simp only[Result.andThen,slicedAt];rw[if_neg (by omega),if_neg h];simp[Addr.add]
theorem Ino.cs_map (x:Ino) (k:Nat) (hk:k < 8):x.cs[3+k]?=some (.int .i64 (x.map[k]'(by rw[x.len];exact hk))):=by
 rcases (show k=0∨k=1∨k=2∨k=3∨k=4∨k=5∨k=6∨k=7 by omega) with rfl | rfl | rfl | rfl | rfl | rfl | rfl | rfl <;> rfl
theorem yajz {x:Ino} {w:World} {b n:Nat} (hn:n≤8) (hb:b < w.heap.size) (h:∀ j,w.cell? ⟨b,j,none⟩=x.cs[j]?):RdI w (.slice (some ⟨b,3,none⟩) n 8) (x.map.take n):=by
 have hl:(x.map.take n).length=n:=by rw[List.length_take,x.len];omega
 refine ⟨by rw[zjz,Nat.mul_one],some ⟨b,3,none⟩,8,by rw[hl],⟨by omega,fun e=>by cases e⟩,fun _=>⟨b,3,rfl,hb,fun j hj=>?_⟩⟩;rw[hl,Nat.mul_one] at hj;rw[h,x.cs_map j (by omega),zfm _ _ (by omega),List.getElem_take]
theorem yamf {x:Ino} {w:World} {b n:Nat} (hn:n≤8) (hb:b < w.heap.size) (h:∀ j,w.cell? ⟨b,j,none⟩=x.cs[j]?):RdI w (.slice (some (if n=8 then ⟨b,3,none⟩ else ⟨b,3+n,none⟩)) (8 - n) (8 - n)) (x.map.drop n):=by
 have hl:(x.map.drop n).length=8 - n:=by rw[List.length_drop,x.len]
 refine ⟨by rw[zjz,Nat.mul_one],some (if n=8 then ⟨b,3,none⟩ else ⟨b,3+n,none⟩),8 - n,by rw[hl],⟨by omega,fun e=>by cases e⟩,fun hp=>?_⟩;rw[hl] at hp;refine ⟨b,3+n,by rw[if_neg (by omega)],hb,fun j hj=>?_⟩;rw[hl,Nat.mul_one] at hj;rw[h,Nat.add_assoc,x.cs_map (n+j) (by omega),zfm _ _ (by omega),List.getElem_drop]
theorem Ino.R.at' {x:Ino} (h:x.R) (k:Nat) (hk:k < x.map.length):-9223372036854775808≤x.map[k]∧x.map[k]≤9223372036854775807:=h _ (List.getElem_mem _)
theorem yach (x:Ino) (w:World) (hT:TS w) (hr:x.R):Calls Tryz.prog 233 #[x.v] w fun e w'=>e=.returned (.bool (zjo x))∧Below w.heap.size w w':=by
 have hv:x.v=.agg x.cs.toArray:=rfl
 obtain ⟨W,hW⟩:∃ W,W=w.alloc (.cells x.cs.toArray 133):=⟨_,rfl⟩
 have CA:Hid (∀ j,W.cell? ⟨w.heap.size,j,none⟩=x.cs[j]?):=fun j=>by rw[hW];exact (zae (xs:=x.cs) (zah rfl) j).1
 have BW:Hid (Below w.heap.size w W):=by rw[hW];exact (Below.refl _ _).alloc (Nat.le_refl _) _
 have T:Hid (TS W):=hT.below BW.o
 have hWz:w.heap.size < W.heap.size:=by rw[hW];simp
 have c0:W.cell? ⟨w.heap.size,0,none⟩=some (.int .i64 x.kind):=CA.o 0;have c1:W.cell? ⟨w.heap.size,1,none⟩=some (.int .i64 x.size):=CA.o 1;have c2:W.cell? ⟨w.heap.size,2,none⟩=some (.int .i64 x.links):=CA.o 2;have HR:=zaa hr;subst hW;rw[hv];clear hT hr
 by_cases h0:x.kind=1
 case neg =>
  have E:=zaa (show zjo x=false by unfold zjo;rw[decide_eq_false h0];rfl)
  have q:(x.kind != 1)=true:=by rw[bne_iff_ne];exact h0
  go_enter Tryz.func233,Tryz.ntmps233;go_wp2;go_ret;exact ⟨zaf E.o.symm,BW.o⟩
 have q:(x.kind != 1)=false:=by rw[h0];rfl
 by_cases h1:1≤x.links
 case neg =>
  have E:=zaa (show zjo x=false by unfold zjo;rw[decide_eq_true h0,decide_eq_false (show ¬ (1≤x.links∧x.links≤24) by omega)];rfl)
  have q2:x.links < 1:=by omega
  go_enter Tryz.func233,Tryz.ntmps233;go_wp2;go_ret;exact ⟨zaf E.o.symm,BW.o⟩
 have q2:¬ x.links < 1:=by omega
 by_cases h2:x.links≤24
 case neg =>
  have E:=zaa (show zjo x=false by unfold zjo;rw[decide_eq_true h0,decide_eq_false (show ¬ (1≤x.links∧x.links≤24) by omega)];rfl)
  have q3:24 < x.links:=by omega
  go_enter Tryz.func233,Tryz.ntmps233;go_wp2;go_ret;exact ⟨zaf E.o.symm,BW.o⟩
 have q3:¬ 24 < x.links:=by omega
 by_cases h3:0≤x.size∧x.size < 9
 case neg =>
  have E:=zaa (show zjo x=false by unfold zjo;rw[decide_eq_true h0,decide_eq_true (show 1≤x.links∧x.links≤24 by omega),decide_eq_false h3];rfl);have H3:=zaa h3;clear h3;go_enter Tryz.func233,Tryz.ntmps233;go_wp2_with (go_at_call 171;refine (zbi _ _ _ H3.o).mono ?_;rintro e w' ⟨rfl,rfl⟩);go_ret;exact ⟨zaf E.o.symm,BW.o⟩
 have E:=zaa (show zjo x=(zxr (x.map.take x.size.toNat) && yaea (x.map.drop x.size.toNat)) by unfold zjo;rw[decide_eq_true h0,decide_eq_true (show 1≤x.links∧x.links≤24 by omega),decide_eq_true h3];rfl)
 obtain ⟨n,hn⟩:∃ n:Nat,x.size=(n:Int):=⟨x.size.toNat,by omega⟩
 have hn8:n≤8:=by omega
 rw[show x.size.toNat=n by omega] at E;rw[hn] at c1 h3;have R1:=zaa (yajz (x:=x) hn8 hWz CA.o);have R2:=zaa (yamf (x:=x) hn8 hWz CA.o);have s1:=yaoq (w.alloc (.cells x.cs.toArray 133)) w.heap.size n hn8;have s2:=yaog (w.alloc (.cells x.cs.toArray 133)) w.heap.size n hn8;have L1:=zaa (show (x.map.take n).length≤2147483648 by rw[List.length_take];omega);have L2:=zaa (show (x.map.drop n).length≤2147483648 by rw[List.length_drop,x.len];omega);have RR:=zaa (show ∀ k (h:k < (x.map.take n).length),-9223372036854775808≤(x.map.take n)[k]∧(x.map.take n)[k]≤9223372036854775807 from fun k h=>by rw[List.getElem_take];exact HR.o.at' k _);have H3:=zaa h3;generalize (if n=8 then (⟨w.heap.size,3,none⟩:Addr) else ⟨w.heap.size,3+n,none⟩)=aT at s2 R2
 cases hq:zxr (x.map.take n) with
 | false =>
  have TQ:=zaa hq;rw[hq] at E;clear h3 hn hq;go_enter Tryz.func233,Tryz.ntmps233;go_wp2_with fail;refine (zaq _ _ _ H3.o).mono ?_;rintro e w' ⟨rfl,rfl⟩;go_wp2_with fail;refine (ziw _ _ _ R1.o L1.o T.o RR.o).mono ?_;rw[TQ.o];rintro e w' ⟨rfl,rfl⟩;go_wp2;go_ret;exact ⟨zaf (by rw[E.o];rfl),BW.o⟩
 | true =>
  have TQ:=zaa hq;rw[hq] at E;clear h3 hn hq;go_enter Tryz.func233,Tryz.ntmps233;go_wp2_with fail;refine (zaq _ _ _ H3.o).mono ?_;rintro e w' ⟨rfl,rfl⟩;go_wp2_with fail;refine (ziw _ _ _ R1.o L1.o T.o RR.o).mono ?_;rw[TQ.o];rintro e w' ⟨rfl,rfl⟩;go_wp2_with fail;refine (zna _ _ _ R2.o L2.o).mono ?_;rintro e w' ⟨rfl,rfl⟩;go_wp2;go_ret;exact ⟨zaf (by rw[E.o];rfl),BW.o⟩
theorem yard {zs:List Int} {n:Int} {k:Nat} (hk:k < zs.length) (h:n=zs[k]):zeq zs n=true:=by
 unfold zeq;rw[List.contains_eq_any_beq,List.any_eq_true];exact ⟨zs[k],List.getElem_mem _,by rw[h];simp⟩
theorem zuq (v:Value) (zs:List Int) (n:Int) (w:World) (h:RdI w v zs) (hn:zs.length≤1048576) :
  Calls Tryz.prog 236 #[v,.int .i64 n] w fun e w'=>∃ r:Int,e=.returned (.int .i64 r)∧(decide (0≤r)=zeq zs n)∧w'=w:=by
 obtain ⟨aZ,cZ,rfl,_,hcZ⟩:=h.shape;have HZ:=zaa hcZ;clear h hcZ;go_enter Tryz.func236,Tryz.ntmps236;go_wp2
 go_loop [5,8] (fun _ i=>∃ k:Nat,k≤zs.length∧i=.int .i64 k∧Hid (∀ j (h:j < zs.length),j < k→¬ zs[j]=n)) (fun _ i=>zs.length - (intOf i).toNat)
 case atStart=>exact ⟨0,by omega,rfl,fun j h a=>absurd a (by omega)⟩
 case round =>
  obtain ⟨k,hk,rfl,H⟩:=hrel
  by_cases hlt:k < zs.length
  ·obtain ⟨b,o,rfl,hbl,hcell⟩:=HZ.o (by omega);have hck:=hcell k hlt;clear hcell
   by_cases q:n=zs[k]
   ·have q':(n == zs[k])=true:=by rw[beq_iff_eq];exact q
    have E:=zaa (yard hlt q);clear q H;generalize zs[k]=z at *;go_wp2;go_ret;exact ⟨_,rfl,by rw[E.o];exact decide_eq_true (by omega),rfl⟩
   ·have q':(n == zs[k])=false:=by rw[beq_eq_false_iff_ne];exact q
    have H':Hid (∀ j (h:j < zs.length),j < k+1→¬ zs[j]=n):=fun j h a=>by
     by_cases e:j=k
     ·subst e;exact fun e=>q e.symm
     ·exact H.o j h (by omega)
    clear q H;generalize zs[k]=z at hck q';go_wp2
    go_round
    case rel=>exact ⟨k+1,by omega,by go_num,H'⟩
    case measure=>simp[intOf];omega
  ·have E:=zaa (yagy (fun j h=>H.o j h (by omega)));clear H;go_wp2;go_ret;exact ⟨_,rfl,by rw[E.o];rfl,rfl⟩
theorem zfb (v:Value) (zs:List Int) (n:Int) (w:World) (h:RdI w v zs) (hn:zs.length≤1048576) :
  Calls Tryz.prog 169 #[v,.int .i64 n] w fun e w'=>e=.returned (.bool (zeq zs n))∧w'=w:=by
 have HZ:=zaa h;obtain ⟨aZ,cZ,rfl,_,_⟩:=h.shape;clear h;go_enter Tryz.func169,Tryz.ntmps169;go_wp2_with fail;refine (zuq _ zs n _ HZ.o hn).mono ?_;rintro e w' ⟨r,rfl,hr,hw'⟩;subst w';have R:=zaa hr;clear hr;go_wp2;go_ret;exact ⟨zaf R.o,rfl⟩
theorem Rd.take {w:World} {size:Nat} {ao:Option Addr} {n c:Nat} {xs:List Value} {m:Nat} (h:Rd w size (.slice ao n c) n xs) (hm:m≤n):Rd w size (.slice ao m c) m (xs.take (m*size)):=by
 obtain ⟨h1,ao',cap,e,h2,h3⟩:=h
 cases e
 have hms:m*size≤n*size:=Nat.mul_le_mul_right _ hm;refine ⟨by rw[List.length_take,h1];omega,ao,c,rfl,⟨by omega,h2.2⟩,fun hp=>?_⟩;obtain ⟨b,o,e1,e2,e3⟩:=h3 (by omega);exact ⟨b,o,e1,e2,fun j hj=>by rw[e3 j (by omega),List.getElem?_take,if_pos hj]⟩
theorem RdI.take {w:World} {ao:Option Addr} {c:Nat} {zs:List Int} {m:Nat} (h:RdI w (.slice ao zs.length c) zs) (hm:m≤zs.length):RdI w (.slice ao m c) (zs.take m):=by
 have:=Rd.take h hm;unfold RdI
 have e:(zs.take m).length=m:=by rw[List.length_take];omega
 have e2:zeg (zs.take m)=(zeg zs).take (m*1):=by rw[Nat.mul_one];simp[zeg,List.map_take]
 rw[e,e2];exact this
def zfc (zs:List Int):Bool:=decide (∀ k (h:k < zs.length),zeq (zs.take k) zs[k]=false)
theorem yaah {zs:List Int} (h:∀ k (h:k < zs.length),zeq (zs.take k) zs[k]=false):zfc zs=true:=decide_eq_true h
theorem zwf {zs:List Int} {k:Nat} (hk:k < zs.length) (h:zeq (zs.take k) zs[k]=true):zfc zs=false:=decide_eq_false (fun x=>by have:=x k hk;rw[h] at this;cases this)
theorem zmx (v:Value) (zs:List Int) (w:World) (h:RdI w v zs) (hn:zs.length≤1048576) :
  Calls Tryz.prog 95 #[v] w fun e w'=>e=.returned (.bool (zfc zs))∧w'=w:=by
 have HR:=zaa h;obtain ⟨aZ,cZ,rfl,hcap,hcZ⟩:=h.shape;have HZ:=zaa hcZ;clear h hcZ;go_enter Tryz.func95,Tryz.ntmps95;go_wp2
 go_loop [3,4,7] (fun _ _ i=>∃ k:Nat,k≤zs.length∧i=.int .i64 k∧Hid (∀ j (h:j < zs.length),j < k→zeq (zs.take j) zs[j]=false)) (fun _ _ i=>zs.length - (intOf i).toNat)
 case atStart=>exact ⟨0,by omega,rfl,fun j h a=>absurd a (by omega)⟩
 case round =>
  obtain ⟨k,hk,rfl,H⟩:=hrel
  by_cases hlt:k < zs.length
  ·obtain ⟨b,o,rfl,hbl,hcell⟩:=HZ.o (by omega);have hck:=hcell k hlt;have RT:=zaa (RdI.take HR.o hk);have LT:=zaa (show (zs.take k).length≤1048576 by rw[List.length_take];omega);clear hcell
   cases q:zeq (zs.take k) zs[k] with
   | false =>
    have H':Hid (∀ j (h:j < zs.length),j < k+1→zeq (zs.take j) zs[j]=false):=fun j h a=>by
     by_cases e:j=k
     ·subst e;exact q
     ·exact H.o j h (by omega)
    have Q:=zaa q;clear q H;generalize zs[k]=z at hck Q;go_wp2_with (go_at_call 169;refine (zfb _ (zs.take k) z _ RT.o LT.o).mono ?_;rw[Q.o];rintro e w' ⟨rfl,rfl⟩)
    go_round
    case rel=>exact ⟨k+1,by omega,by go_num,H'⟩
    case measure=>simp[intOf];omega
   | true =>
    have E:=zaa (zwf hlt q);have Q:=zaa q;clear q H;generalize zs[k]=z at hck Q;go_wp2_with (go_at_call 169;refine (zfb _ (zs.take k) z _ RT.o LT.o).mono ?_;rw[Q.o];rintro e w' ⟨rfl,rfl⟩);go_ret;exact ⟨zaf E.o.symm,rfl⟩
  ·have E:=zaa (yaah (fun j h=>H.o j h (by omega)));clear H;go_wp2;go_ret;exact ⟨zaf E.o.symm,rfl⟩
def ufL (at_:Int) (zs:List Int) (k:Nat):List Se:=(List.range k).map (fun j:Nat=>⟨at_+(j:Int),zs.getD j 0⟩)
theorem yapb (a:Int) (zs:List Int) (k:Nat):(ufL a zs k).length=k:=by simp[ufL]
theorem yala (a:Int) (zs:List Int) (k:Nat) (h:k < zs.length):ufL a zs (k+1)=ufL a zs k ++ [⟨a+(k:Int),zs[k]⟩]:=by
 unfold ufL;rw[List.range_succ,List.map_append];simp[List.getD_eq_getElem?_getD,List.getElem?_eq_getElem h]
theorem zhs (a:Int) (v:Value) (zs:List Int) (w:World) (h:RdI w v zs) (hn:zs.length≤64) (ha:0≤a∧a≤1000) :
  Calls Tryz.prog 298 #[.int .i64 a,v] w fun e w'=>∃ v',e=.returned v'∧Row w' 180 2 w.heap.size w'.heap.size v' (ufL a zs zs.length).length (ses (ufL a zs zs.length))∧Below w.heap.size w w':=by
 obtain ⟨aU,cU,rfl,_,hcU⟩:=h.shape;have HU:=zaa hcU;obtain ⟨ha0,ha1⟩:=ha;clear h hcU;go_enter Tryz.func298,Tryz.ntmps298;go_wp2
 go_loopw [5,6,7,10] (fun vL _ _ i wr=>∃ m:Nat,m≤zs.length∧i=.int .i64 m∧Hid (UpI w wr vL (ufL a zs m))∧w.heap.size≤wr.heap.size) (fun _ _ _ i _=>zs.length - (intOf i).toNat)
 case atStart=>exact ⟨0,by omega,rfl,⟨World.ownsRow_nil _ _ _ _,Below.refl _ _⟩,Nat.le_refl _⟩
 case round =>
  obtain ⟨m,hm,rfl,I,hz⟩:=hrel
  by_cases hlt:m < zs.length
  ·obtain ⟨b,o,rfl,hbl,hcell⟩:=HU.o (by omega);have e0:=(I.o.b.cell (p:=⟨b,o+m,none⟩) hbl).trans (hcell m hlt)
   have m0:(0:Int)≤(m:Int):=by omega
   have m1:(m:Int) < (zs.length:Int):=by omega
   have NX:=zaa (yala a zs m hlt)
   have hle:(ufL a zs m).length≤64:=by rw[yapb];omega
   clear hcell;generalize zs[m]=x at *
   obtain ⟨wb,hwb⟩:∃ wb:World,wb=wr.alloc (.cells #[.int .i64 (a+(m:Int)),.int .i64 x] 180):=⟨_,rfl⟩
   have IB:Hid (UpI w wb u5 (ufL a zs m)):=by rw[hwb];exact I.o.below ((Below.refl _ _).alloc (Nat.le_refl _) _)
   have RB:Hid (Rd wb 2 (.slice (some ⟨wr.heap.size,0,none⟩) 1 1) 1 (ses [⟨a+(m:Int),x⟩])):=by rw[hwb];exact zfs wr _ _
   have hzb:=IB.o.z;subst hwb
   go_wp2_with (first
    | (at_builtin;refine zag _ rfl (.tmp 15) (.tmp 21) 135 rfl w.heap.size 180 (.agg #[.int .i64 0,.int .i64 0]) 2 16 Tryz.underlying135 zfg rfl (by decide) _ _ _ rfl IB.o.l _ 1 _ rfl RB.o (zcm _) (by simp[maxLen];omega) (by omega) (by omega) ?_))
   intro vN wN hownN hgrN;have G:=zaa (IB.o.grow [⟨a+(m:Int),x⟩] hownN hgrN);rw[← NX.o] at G;have hzN:=G.o.z;clear hownN hgrN IB RB I;go_wp2
   go_roundw
   case rel=>exact ⟨m+1,by omega,by go_num,G,by omega⟩
   case measure=>simp[intOf];omega
  ·obtain rfl:m=zs.length:=by omega
   obtain ⟨-,aL,cL,hvL,-⟩:=(zad I.o.l).rd;subst hvL;go_wp2;go_ret;exact ⟨_,rfl,zad I.o.l,I.o.b⟩
end Go.Proofs.YtehnphoeplmpdaaGreatDoor
