/- Several texts laid together: Wd, ImA, Wt, ImB. -/
import Derived.Test.YtbohndgbfbfldaaGreatDoorMem
import Derived.Test.YtbohndgbfbfldaaGreatDoorIntS
import Derived.BigQuiet
import Derived.Deep.QuietTactic
set_option maxRecDepth 100000
set_option maxHeartbeats 2000000
namespace Go.Proofs.YtbohndgbfbfldaaGreatDoor
open Go.RowKit
theorem zay (n hi:Int) (w:World) (h:0≤n∧n < hi):Calls Tryz.prog 182 #[.int .i64 n,.int .i64 hi] w fun e w'=>e=.returned (.bool true)∧w'=w:=by
 obtain ⟨h1,h2⟩:=h;go_enter Tryz.func182,Tryz.ntmps182;go_wp2;go_ret;exact ⟨rfl,rfl⟩
theorem zbv (n hi:Int) (w:World) (h:¬ (0≤n∧n < hi)):Calls Tryz.prog 182 #[.int .i64 n,.int .i64 hi] w fun e w'=>e=.returned (.bool false)∧w'=w:=by
 rcases (show ¬ 0≤n∨(0≤n∧¬ n < hi) by omega) with h1 | ⟨h1,h2⟩
 all_goals
  clear h;go_enter Tryz.func182,Tryz.ntmps182;go_wp2;go_ret;exact ⟨rfl,rfl⟩
def inoV (i f:Int):Int:=if (0≤i∧i < 16)∧0≤f∧f < 11 then 48+12*i+f else 0
def inoC (i f:Int):Int:=if (0≤i∧i < 16)∧0≤f∧f < 11 then 0 else 4
theorem zvy {i f:Int} (h:0≤i∧i < 16) (k:0≤f∧f < 11):inoV i f=48+12*i+f∧inoC i f=0:=by unfold inoV inoC;rw[if_pos ⟨h,k⟩,if_pos ⟨h,k⟩];exact ⟨rfl,rfl⟩
theorem zoo {i f:Int} (h:¬ ((0≤i∧i < 16)∧0≤f∧f < 11)):inoV i f=0∧inoC i f=4:=by unfold inoV inoC;rw[if_neg h,if_neg h];exact ⟨rfl,rfl⟩
theorem zgk (i f:Int) (w:World) (h:0≤i∧i < 16) (k:0≤f∧f < 11):Calls Tryz.prog 152 #[.int .i64 i,.int .i64 f] w fun e w'=>e=.returned (.int .i64 (48+12*i+f))∧w'=w:=by
 go_enter Tryz.func152,Tryz.ntmps152;go_wp2;go_ret;exact ⟨yabw (by first | rfl | omega | (go_num;omega)),rfl⟩
theorem zdo (i f:Int) (w:World):Calls Tryz.prog 153 #[.int .i64 i,.int .i64 f] w fun e w'=>e=.returned (.tuple #[.int .i64 (inoV i f),.int .i64 (inoC i f)])∧w'=w:=by
 by_cases c1:0≤i∧i < 16
 ·by_cases c2:0≤f∧f < 11
  ·have c3:=c1.1;have c4:=c1.2;have E:=zaa (zvy c1 c2);go_enter Tryz.func153,Tryz.ntmps153;go_wp2_with (first | (go_at_call 182;refine (zay _ _ _ (by omega)).mono ?_;rintro e w' ⟨rfl,rfl⟩) | (go_at_call 182;refine (zbv _ _ _ (by omega)).mono ?_;rintro e w' ⟨rfl,rfl⟩));go_ret2;exact ⟨zbn (by rw[E.o.1]) E.o.2.symm,rfl⟩
  ·have c3:¬ ((0≤i∧i < 16)∧0≤f∧f < 11):=fun x=>c2 x.2
   have E:=zaa (zoo c3);go_enter Tryz.func153,Tryz.ntmps153;go_wp2_with (first | (go_at_call 182;refine (zay _ _ _ (by omega)).mono ?_;rintro e w' ⟨rfl,rfl⟩) | (go_at_call 182;refine (zbv _ _ _ (by omega)).mono ?_;rintro e w' ⟨rfl,rfl⟩));go_ret2;exact ⟨zbn (by rw[E.o.1]) E.o.2.symm,rfl⟩
 ·have c3:¬ ((0≤i∧i < 16)∧0≤f∧f < 11):=fun x=>c1 x.1
  have E:=zaa (zoo c3);go_enter Tryz.func153,Tryz.ntmps153;go_wp2_with (first | (go_at_call 182;refine (zay _ _ _ (by omega)).mono ?_;rintro e w' ⟨rfl,rfl⟩) | (go_at_call 182;refine (zbv _ _ _ (by omega)).mono ?_;rintro e w' ⟨rfl,rfl⟩));go_ret2;exact ⟨zbn (by rw[E.o.1]) E.o.2.symm,rfl⟩
theorem zal {w:World} {b:Nat} {t:TypeId} {xs:List Value} (h:w.heap[b]?=some (.cells xs.toArray t (0,0))) (j:Nat) (u:Value):(w.setCell ⟨b,j,none⟩ u).heap[b]?=some (.cells (xs.set j u).toArray t (0,0)):=by
 simp[World.setCell,Array.getElem?_modify,h]
theorem zag {w:World} {b:Nat} {t:TypeId} {xs:List Value} (h:w.heap[b]?=some (.cells xs.toArray t (0,0))) (j:Nat):w.cell? ⟨b,j,none⟩=xs[j]?∧w.frozen? ⟨b,j,none⟩=false:=by
 simp[World.cell?,World.frozen?,h]
structure Ino where
 kind:Int
 size:Int
 links:Int
 m0:Int
 m1:Int
 m2:Int
 m3:Int
 m4:Int
 m5:Int
 m6:Int
 m7:Int
def Ino.map (x:Ino):List Int:=[x.m0,x.m1,x.m2,x.m3,x.m4,x.m5,x.m6,x.m7]
def Ino.v (x:Ino):Value:=.agg #[.int .i64 x.kind,.int .i64 x.size,.int .i64 x.links,.int .i64 x.m0,.int .i64 x.m1,.int .i64 x.m2,.int .i64 x.m3,.int .i64 x.m4,.int .i64 x.m5,.int .i64 x.m6,.int .i64 x.m7]
def Ino.cs (x:Ino):List Value:=[.int .i64 x.kind,.int .i64 x.size,.int .i64 x.links,.int .i64 x.m0,.int .i64 x.m1,.int .i64 x.m2,.int .i64 x.m3,.int .i64 x.m4,.int .i64 x.m5,.int .i64 x.m6,.int .i64 x.m7]
def TS (w:World):Prop:=∃ t fr,w.heap[4]?=some (.cells #[.int .i64 1,.int .i64 24,.int .i64 32] t fr)
theorem TS.lt {w:World} (h:TS w):4 < w.heap.size:=by
 obtain ⟨t,fr,h⟩:=h;exact (Array.getElem?_eq_some_iff.1 h).1
theorem TS.below {w w':World} (h:TS w) (hb:Below w.heap.size w w'):TS w':=by
 have hl:=h.lt;obtain ⟨t,fr,h⟩:=h;exact ⟨t,fr,(hb.block _ hl).trans h⟩
theorem TS.cells {w:World} (h:TS w):w.cell? ⟨4,0,none⟩=some (.int .i64 1)∧w.cell? ⟨4,1,none⟩=some (.int .i64 24)∧w.cell? ⟨4,2,none⟩=some (.int .i64 32):=by
 obtain ⟨t,fr,h⟩:=h;simp[World.cell?,h]
def zjq (t a:Int):Bool:=decide ((t=0∧a=0)∨(t=1∧0≤a∧a < 24)∨(t=2∧0≤a∧a < 32))
theorem zvl {t a:Int} (h:¬ ((t=0∧a=0)∨(t=1∧0≤a∧a < 24)∨(t=2∧0≤a∧a < 32))):zjq t a=false:=decide_eq_false h
theorem zri {t a:Int} (h:zjq t a=true):(t=0∧a=0)∨(t=1∧0≤a∧a < 24)∨(t=2∧0≤a∧a < 32):=of_decide_eq_true h
def zfp (e:Int):Bool:=decide (0≤e) && zjq (e % 4) (e / 4)
def tieT (e:Int):Int:=if zfp e=true then e % 4 else 0
def tieA (e:Int):Int:=if zfp e=true then e / 4 else 0
def tieC (e:Int):Int:=if zfp e=true then 0 else 3
theorem znq {e:Int} (h:zfp e=true):tieT e=e % 4∧tieA e=e / 4∧tieC e=0:=by unfold tieT tieA tieC;rw[if_pos h,if_pos h,if_pos h];exact ⟨rfl,rfl,rfl⟩
theorem zoq {e:Int} (h:zfp e=false):tieT e=0∧tieA e=0∧tieC e=3:=by unfold tieT tieA tieC;rw[h];exact ⟨rfl,rfl,rfl⟩
theorem ztv {n:Int} (h:n < 0):zjq (n.tmod 4) (n.tdiv 4)=false:=by
 apply zvl
 obtain ⟨m,rfl⟩:∃ m:Int,n=-m:=⟨-n,by omega⟩
 rw[Int.neg_tmod,Int.neg_tdiv,Int.tmod_eq_emod_of_nonneg (by omega),Int.tdiv_eq_ediv_of_nonneg (by omega)];omega
theorem zhm {a b c d e f:Int} (h:a=b) (k:c=d) (l:e=f):Ending.returned (.tuple #[.int .i64 a,.int .i64 c,.int .i64 e])=.returned (.tuple #[.int .i64 b,.int .i64 d,.int .i64 f]):=by rw[h,k,l]
theorem zlq (t a:Int) (w:World) (hT:TS w) (h:zjq t a=true):Calls Tryz.prog 212 #[.int .i64 t,.int .i64 a] w fun e w'=>e=.returned (.bool true)∧w'=w:=by
 obtain ⟨x0,x1,x2⟩:=hT.cells;clear hT
 rcases zri h with ⟨rfl,rfl⟩ | ⟨rfl,h1,h2⟩ | ⟨rfl,h1,h2⟩
 all_goals
  clear h;go_enter Tryz.func212,Tryz.ntmps212;go_wp2_with (go_at_call 182;refine (zay _ _ _ (by omega)).mono ?_;rintro e w' ⟨rfl,rfl⟩);go_ret;exact ⟨rfl,rfl⟩
theorem zgn (t a:Int) (w:World) (hT:TS w) (h:zjq t a=false):Calls Tryz.prog 212 #[.int .i64 t,.int .i64 a] w fun e w'=>e=.returned (.bool false)∧w'=w:=by
 obtain ⟨x0,x1,x2⟩:=hT.cells;have h':¬ ((t=0∧a=0)∨(t=1∧0≤a∧a < 24)∨(t=2∧0≤a∧a < 32)):=of_decide_eq_false h;clear hT h
 rcases (show (t=0∧¬ (0≤a∧a < 1))∨(t=1∧¬ (0≤a∧a < 24))∨(t=2∧¬ (0≤a∧a < 32))∨¬ (0≤t∧t < 3) by omega) with ⟨rfl,ha⟩ | ⟨rfl,ha⟩ | ⟨rfl,ha⟩ | ha
 all_goals
  have H:=zaa ha;clear h' ha;go_enter Tryz.func212,Tryz.ntmps212;go_wp2_with (first | (go_at_call 182;refine (zay _ _ _ (by omega)).mono ?_;rintro e w' ⟨rfl,rfl⟩) | (go_at_call 182;refine (zbv _ _ _ H.o).mono ?_;rintro e w' ⟨rfl,rfl⟩));go_ret;exact ⟨rfl,rfl⟩
theorem zdd (n:Int) (w:World) (hT:TS w) (h0:-9223372036854775808≤n) (h1:n≤9223372036854775807):Calls Tryz.prog 195 #[.int .i64 n] w fun e w'=>e=.returned (.tuple #[.int .i64 (tieT n),.int .i64 (tieA n),.int .i64 (tieC n)])∧w'=w:=by
 have T:=zaa hT;clear hT
 by_cases c0:0≤n
 ·by_cases c:zjq (n % 4) (n / 4)=true
  ·have E:=zaa (znq (e:=n) (by unfold zfp;rw[c,decide_eq_true c0];rfl));have C:=zaa c;clear c;go_enter Tryz.func195,Tryz.ntmps195;go_wp2_with (go_at_call 212;refine (zlq _ _ _ T.o C.o).mono ?_;rintro e w' ⟨rfl,rfl⟩);go_ret3;exact ⟨zhm (by rw[E.o.1]) (by rw[E.o.2.1]) E.o.2.2.symm,rfl⟩
  ·have c':zjq (n % 4) (n / 4)=false:=by simpa using c
   have E:=zaa (zoq (e:=n) (by unfold zfp;rw[c'];simp));have C:=zaa c';clear c c';go_enter Tryz.func195,Tryz.ntmps195;go_wp2_with (go_at_call 212;refine (zgn _ _ _ T.o C.o).mono ?_;rintro e w' ⟨rfl,rfl⟩);go_ret3;exact ⟨zhm E.o.1.symm E.o.2.1.symm E.o.2.2.symm,rfl⟩
 ·have E:=zaa (zoq (e:=n) (by unfold zfp;rw[decide_eq_false c0];rfl));go_enter Tryz.func195,Tryz.ntmps195;go_wp2_with (go_at_call 212;refine (zgn _ _ _ T.o (ztv (by omega))).mono ?_;rintro e w' ⟨rfl,rfl⟩);go_ret3;exact ⟨zhm E.o.1.symm E.o.2.1.symm E.o.2.2.symm,rfl⟩
def entB (i:Nat) (z size:Int):Bool:=zfp z && (z == 0 || decide ((i:Int) < size))
def yafe (zs:List Int) (size:Int) (k:Nat):Prop:=∀ i,i < k→entB i (zs.getD i 0) size=true
def mapB (zs:List Int) (size:Int):Bool:=(List.range 8).all fun i=>entB i (zs.getD i 0) size
theorem yabo {zs:List Int} {size:Int} (h:yafe zs size 8):mapB zs size=true:=by
 unfold mapB;rw[List.all_eq_true];intro i hi;exact h i (List.mem_range.1 hi)
theorem zpt {zs:List Int} {size:Int} (h:mapB zs size=true):yafe zs size 8:=by
 unfold mapB at h;rw[List.all_eq_true] at h;intro i hi;exact h i (List.mem_range.2 hi)
def zsf (x:Ino):Bool:=if x.kind=0 then decide (x.size=0∧x.links=0∧x.map=[0,0,0,0,0,0,0,0]) else if x.kind=2 then x.size == 0 && x.links == 1 else decide (0 < x.links)
def zga (x:Ino):Bool:=decide (0≤x.kind∧x.kind≤2) && (decide (0≤x.size∧x.size≤8) && (decide (0≤x.links∧x.links≤24) && (mapB x.map x.size && zsf x)))
def Ino.R (x:Ino):Prop:=∀ z∈x.map,-9223372036854775808≤z∧z≤9223372036854775807
theorem Ino.len (x:Ino):x.map.length=8:=rfl
theorem Ino.at (x:Ino) (k:Nat) (hk:k < 8):x.cs[3+k]?=some (.int .i64 (x.map.getD k 0)):=by
 rcases (show k=0∨k=1∨k=2∨k=3∨k=4∨k=5∨k=6∨k=7 by omega) with rfl | rfl | rfl | rfl | rfl | rfl | rfl | rfl <;> rfl
@[go_sem] theorem yafs (m0 m1 m2 m3 m4 m5 m6 m7:Int) (w:World):(Op.equalIn 9999 147 (.agg #[.int .i64 m0,.int .i64 m1,.int .i64 m2,.int .i64 m3,.int .i64 m4,.int .i64 m5,.int .i64 m6,.int .i64 m7]) (.agg #[.int .i64 0,.int .i64 0,.int .i64 0,.int .i64 0,.int .i64 0,.int .i64 0,.int .i64 0,.int .i64 0])).run Tryz.prog w=.ok (decide ([m0,m1,m2,m3,m4,m5,m6,m7]=[0,0,0,0,0,0,0,0])) w:=by
 have u3:=Tryz.underlying3;have a3:=Tryz.isAgg3;have z3:=Tryz.sizeOf3;rw[show (9999:Nat)=9998+1 from rfl,Op.equalIn];simp only[Sem.run_bind,run_underlying Tryz.underlying147,Result.andThen_ok];simp only[Std.Legacy.Range.forIn_eq_forIn_range',Std.Legacy.Range.size,Nat.sub_zero,Nat.add_sub_cancel,Nat.div_one,List.range'_succ,List.range'_zero,List.forIn_cons,List.forIn_nil];go_simp
 by_cases h0:m0=0
 case neg=>simp[h0]
 by_cases h1:m1=0
 case neg=>simp[h0,h1]
 by_cases h2:m2=0
 case neg=>simp[h0,h1,h2]
 by_cases h3:m3=0
 case neg=>simp[h0,h1,h2,h3]
 by_cases h4:m4=0
 case neg=>simp[h0,h1,h2,h3,h4]
 by_cases h5:m5=0
 case neg=>simp[h0,h1,h2,h3,h4,h5]
 by_cases h6:m6=0
 case neg=>simp[h0,h1,h2,h3,h4,h5,h6]
 by_cases h7:m7=0
 case neg=>simp[h0,h1,h2,h3,h4,h5,h6,h7]
 simp[h0,h1,h2,h3,h4,h5,h6,h7]
end Go.Proofs.YtbohndgbfbfldaaGreatDoor
