/- Several texts laid together: Wd, ImA, Wt, ImB. -/
import Derived.Test.YtehnphoeplmpdaaGreatDoorZAA
import Derived.BigQuiet
import Derived.Deep.QuietTactic
set_option maxRecDepth 100000
set_option maxHeartbeats 2000000
namespace Go.Proofs.YtehnphoeplmpdaaGreatDoor
open Go.RowKit
theorem zar (n lo hi:Int) (w:World) (h:lo≤n∧n≤hi):Calls Tryz.prog 78 #[.int .i64 n,.int .i64 lo,.int .i64 hi] w fun e w'=>e=.returned (.bool true)∧w'=w:=by
 obtain ⟨h1,h2⟩:=h;go_enter Tryz.func78,Tryz.ntmps78;go_wp2;go_ret;exact ⟨rfl,rfl⟩
theorem zcg (n lo hi:Int) (w:World) (h:¬ (lo≤n∧n≤hi)):Calls Tryz.prog 78 #[.int .i64 n,.int .i64 lo,.int .i64 hi] w fun e w'=>e=.returned (.bool false)∧w'=w:=by
 rcases (show ¬ lo≤n∨(lo≤n∧¬ n≤hi) by omega) with h1 | ⟨h1,h2⟩
 all_goals
  clear h;go_enter Tryz.func78,Tryz.ntmps78;go_wp2;go_ret;exact ⟨rfl,rfl⟩
theorem zaq (n hi:Int) (w:World) (h:0≤n∧n < hi):Calls Tryz.prog 171 #[.int .i64 n,.int .i64 hi] w fun e w'=>e=.returned (.bool true)∧w'=w:=by
 obtain ⟨h1,h2⟩:=h;go_enter Tryz.func171,Tryz.ntmps171;go_wp2;go_ret;exact ⟨rfl,rfl⟩
theorem zbi (n hi:Int) (w:World) (h:¬ (0≤n∧n < hi)):Calls Tryz.prog 171 #[.int .i64 n,.int .i64 hi] w fun e w'=>e=.returned (.bool false)∧w'=w:=by
 rcases (show ¬ 0≤n∨(0≤n∧¬ n < hi) by omega) with h1 | ⟨h1,h2⟩
 all_goals
  clear h;go_enter Tryz.func171,Tryz.ntmps171;go_wp2;go_ret;exact ⟨rfl,rfl⟩
def inoV (i f:Int):Int:=if (0≤i∧i < 16)∧0≤f∧f < 11 then 48+12*i+f else 0
def inoC (i f:Int):Int:=if (0≤i∧i < 16)∧0≤f∧f < 11 then 0 else 4
theorem yaai {i f:Int} (h:0≤i∧i < 16) (k:0≤f∧f < 11):inoV i f=48+12*i+f∧inoC i f=0:=by unfold inoV inoC;rw[if_pos ⟨h,k⟩,if_pos ⟨h,k⟩];exact ⟨rfl,rfl⟩
theorem zzg {i f:Int} (h:¬ ((0≤i∧i < 16)∧0≤f∧f < 11)):inoV i f=0∧inoC i f=4:=by unfold inoV inoC;rw[if_neg h,if_neg h];exact ⟨rfl,rfl⟩
theorem zbe (i f:Int) (w:World) (h:0≤i∧i < 16) (k:0≤f∧f < 11):Calls Tryz.prog 143 #[.int .i64 i,.int .i64 f] w fun e w'=>e=.returned (.int .i64 (48+12*i+f))∧w'=w:=by
 go_enter Tryz.func143,Tryz.ntmps143;go_wp2;go_ret;exact ⟨zcd (by first | rfl | omega | (go_num;omega)),rfl⟩
theorem zen (i f:Int) (w:World):Calls Tryz.prog 299 #[.int .i64 i,.int .i64 f] w fun e w'=>e=.returned (.tuple #[.int .i64 (inoV i f),.int .i64 (inoC i f)])∧w'=w:=by
 by_cases c1:0≤i∧i < 16
 ·by_cases c2:0≤f∧f < 11
  ·have c3:=c1.1;have c4:=c1.2;have E:=zaa (yaai c1 c2);go_enter Tryz.func299,Tryz.ntmps299;go_wp2_with (first | (go_at_call 171;refine (zaq _ _ _ (by omega)).mono ?_;rintro e w' ⟨rfl,rfl⟩) | (go_at_call 171;refine (zbi _ _ _ (by omega)).mono ?_;rintro e w' ⟨rfl,rfl⟩));go_ret2;exact ⟨zbt (by rw[E.o.1]) E.o.2.symm,rfl⟩
  ·have c3:¬ ((0≤i∧i < 16)∧0≤f∧f < 11):=fun x=>c2 x.2
   have E:=zaa (zzg c3);go_enter Tryz.func299,Tryz.ntmps299;go_wp2_with (first | (go_at_call 171;refine (zaq _ _ _ (by omega)).mono ?_;rintro e w' ⟨rfl,rfl⟩) | (go_at_call 171;refine (zbi _ _ _ (by omega)).mono ?_;rintro e w' ⟨rfl,rfl⟩));go_ret2;exact ⟨zbt (by rw[E.o.1]) E.o.2.symm,rfl⟩
 ·have c3:¬ ((0≤i∧i < 16)∧0≤f∧f < 11):=fun x=>c1 x.1
  have E:=zaa (zzg c3);go_enter Tryz.func299,Tryz.ntmps299;go_wp2_with (first | (go_at_call 171;refine (zaq _ _ _ (by omega)).mono ?_;rintro e w' ⟨rfl,rfl⟩) | (go_at_call 171;refine (zbi _ _ _ (by omega)).mono ?_;rintro e w' ⟨rfl,rfl⟩));go_ret2;exact ⟨zbt (by rw[E.o.1]) E.o.2.symm,rfl⟩
def denV (i f:Int):Int:=if (0≤i∧i < 24)∧0≤f∧f < 3 then 240+3*i+f else 0
def denC (i f:Int):Int:=if (0≤i∧i < 24)∧0≤f∧f < 3 then 0 else 4
theorem yait {i f:Int} (h:0≤i∧i < 24) (k:0≤f∧f < 3):denV i f=240+3*i+f∧denC i f=0:=by unfold denV denC;rw[if_pos ⟨h,k⟩,if_pos ⟨h,k⟩];exact ⟨rfl,rfl⟩
theorem zzx {i f:Int} (h:¬ ((0≤i∧i < 24)∧0≤f∧f < 3)):denV i f=0∧denC i f=4:=by unfold denV denC;rw[if_neg h,if_neg h];exact ⟨rfl,rfl⟩
theorem zdm (i f:Int) (w:World) (h:0≤i∧i < 24) (k:0≤f∧f < 3):Calls Tryz.prog 194 #[.int .i64 i,.int .i64 f] w fun e w'=>e=.returned (.int .i64 (240+3*i+f))∧w'=w:=by
 go_enter Tryz.func194,Tryz.ntmps194;go_wp2;go_ret;exact ⟨zcd (by first | rfl | omega | (go_num;omega)),rfl⟩
theorem zfp (i f:Int) (w:World):Calls Tryz.prog 297 #[.int .i64 i,.int .i64 f] w fun e w'=>e=.returned (.tuple #[.int .i64 (denV i f),.int .i64 (denC i f)])∧w'=w:=by
 by_cases c1:0≤i∧i < 24
 ·by_cases c2:0≤f∧f < 3
  ·have c3:=c1.1;have c4:=c1.2;have E:=zaa (yait c1 c2);go_enter Tryz.func297,Tryz.ntmps297;go_wp2_with (first | (go_at_call 171;refine (zaq _ _ _ (by omega)).mono ?_;rintro e w' ⟨rfl,rfl⟩) | (go_at_call 171;refine (zbi _ _ _ (by omega)).mono ?_;rintro e w' ⟨rfl,rfl⟩));go_ret2;exact ⟨zbt (by rw[E.o.1]) E.o.2.symm,rfl⟩
  ·have c3:¬ ((0≤i∧i < 24)∧0≤f∧f < 3):=fun x=>c2 x.2
   have E:=zaa (zzx c3);go_enter Tryz.func297,Tryz.ntmps297;go_wp2_with (first | (go_at_call 171;refine (zaq _ _ _ (by omega)).mono ?_;rintro e w' ⟨rfl,rfl⟩) | (go_at_call 171;refine (zbi _ _ _ (by omega)).mono ?_;rintro e w' ⟨rfl,rfl⟩));go_ret2;exact ⟨zbt (by rw[E.o.1]) E.o.2.symm,rfl⟩
 ·have c3:¬ ((0≤i∧i < 24)∧0≤f∧f < 3):=fun x=>c1 x.1
  have E:=zaa (zzx c3);go_enter Tryz.func297,Tryz.ntmps297;go_wp2_with (first | (go_at_call 171;refine (zaq _ _ _ (by omega)).mono ?_;rintro e w' ⟨rfl,rfl⟩) | (go_at_call 171;refine (zbi _ _ _ (by omega)).mono ?_;rintro e w' ⟨rfl,rfl⟩));go_ret2;exact ⟨zbt (by rw[E.o.1]) E.o.2.symm,rfl⟩
theorem zhr {w:World} {b:Nat} {t:TypeId} {xs:List Value} (h:w.heap[b]?=some (.cells xs.toArray t (0,0))) (j:Nat) (u:Value):(w.setCell ⟨b,j,none⟩ u).heap[b]?=some (.cells (xs.set j u).toArray t (0,0)):=by
 simp[World.setCell,Array.getElem?_modify,h]
theorem zae {w:World} {b:Nat} {t:TypeId} {xs:List Value} (h:w.heap[b]?=some (.cells xs.toArray t (0,0))) (j:Nat):w.cell? ⟨b,j,none⟩=xs[j]?∧w.frozen? ⟨b,j,none⟩=false:=by
 simp[World.cell?,World.frozen?,h]
structure Ino where
 kind:Int
 size:Int
 links:Int
 m0:Int
 m1:Int
 m2:Int
 m3:Int
 m4:Int
 m5:Int
 m6:Int
 m7:Int
def Ino.map (x:Ino):List Int:=[x.m0,x.m1,x.m2,x.m3,x.m4,x.m5,x.m6,x.m7]
def Ino.v (x:Ino):Value:=.agg #[.int .i64 x.kind,.int .i64 x.size,.int .i64 x.links,.int .i64 x.m0,.int .i64 x.m1,.int .i64 x.m2,.int .i64 x.m3,.int .i64 x.m4,.int .i64 x.m5,.int .i64 x.m6,.int .i64 x.m7]
def Ino.cs (x:Ino):List Value:=[.int .i64 x.kind,.int .i64 x.size,.int .i64 x.links,.int .i64 x.m0,.int .i64 x.m1,.int .i64 x.m2,.int .i64 x.m3,.int .i64 x.m4,.int .i64 x.m5,.int .i64 x.m6,.int .i64 x.m7]
def TS (w:World):Prop:=∃ t fr,w.heap[4]?=some (.cells #[.int .i64 1,.int .i64 24,.int .i64 32] t fr)
theorem TS.lt {w:World} (h:TS w):4 < w.heap.size:=by
 obtain ⟨t,fr,h⟩:=h;exact (Array.getElem?_eq_some_iff.1 h).1
theorem TS.below {w w':World} (h:TS w) (hb:Below w.heap.size w w'):TS w':=by
 have hl:=h.lt;obtain ⟨t,fr,h⟩:=h;exact ⟨t,fr,(hb.block _ hl).trans h⟩
theorem TS.cells {w:World} (h:TS w):w.cell? ⟨4,0,none⟩=some (.int .i64 1)∧w.cell? ⟨4,1,none⟩=some (.int .i64 24)∧w.cell? ⟨4,2,none⟩=some (.int .i64 32):=by
 obtain ⟨t,fr,h⟩:=h;simp[World.cell?,h]
def zfe (t a:Int):Bool:=decide ((t=0∧a=0)∨(t=1∧0≤a∧a < 24)∨(t=2∧0≤a∧a < 32))
def entV (t a:Int):Int:=if zfe t a=true then 4*a+t else 0
def entC (t a:Int):Int:=if zfe t a=true then 0 else 4
theorem yask {t a:Int} (h:zfe t a=true):entV t a=4*a+t∧entC t a=0:=by unfold entV entC;rw[if_pos h,if_pos h];exact ⟨rfl,rfl⟩
theorem yaqc {t a:Int} (h:zfe t a=false):entV t a=0∧entC t a=4:=by unfold entV entC;rw[h];exact ⟨rfl,rfl⟩
theorem yaak {t a:Int} (h:(t=0∧a=0)∨(t=1∧0≤a∧a < 24)∨(t=2∧0≤a∧a < 32)):zfe t a=true:=decide_eq_true h
theorem zkg {t a:Int} (h:¬ ((t=0∧a=0)∨(t=1∧0≤a∧a < 24)∨(t=2∧0≤a∧a < 32))):zfe t a=false:=decide_eq_false h
theorem zrp {t a:Int} (h:zfe t a=true):(t=0∧a=0)∨(t=1∧0≤a∧a < 24)∨(t=2∧0≤a∧a < 32):=of_decide_eq_true h
def zfu (e:Int):Bool:=decide (0≤e) && zfe (e % 4) (e / 4)
def tieT (e:Int):Int:=if zfu e=true then e % 4 else 0
def tieA (e:Int):Int:=if zfu e=true then e / 4 else 0
def tieC (e:Int):Int:=if zfu e=true then 0 else 3
theorem zrw {e:Int} (h:zfu e=true):tieT e=e % 4∧tieA e=e / 4∧tieC e=0:=by unfold tieT tieA tieC;rw[if_pos h,if_pos h,if_pos h];exact ⟨rfl,rfl,rfl⟩
theorem yaab {e:Int} (h:zfu e=false):tieT e=0∧tieA e=0∧tieC e=3:=by unfold tieT tieA tieC;rw[h];exact ⟨rfl,rfl,rfl⟩
theorem yajd {n:Int} (h:n < 0):zfe (n.tmod 4) (n.tdiv 4)=false:=by
 apply zkg
 obtain ⟨m,rfl⟩:∃ m:Int,n=-m:=⟨-n,by omega⟩
 rw[Int.neg_tmod,Int.neg_tdiv,Int.tmod_eq_emod_of_nonneg (by omega),Int.tdiv_eq_ediv_of_nonneg (by omega)];omega
theorem zoe {a b c d e f:Int} (h:a=b) (k:c=d) (l:e=f):Ending.returned (.tuple #[.int .i64 a,.int .i64 c,.int .i64 e])=.returned (.tuple #[.int .i64 b,.int .i64 d,.int .i64 f]):=by rw[h,k,l]
theorem zks (t a:Int) (w:World) (hT:TS w) (h:zfe t a=true):Calls Tryz.prog 238 #[.int .i64 t,.int .i64 a] w fun e w'=>e=.returned (.bool true)∧w'=w:=by
 obtain ⟨x0,x1,x2⟩:=hT.cells;clear hT
 rcases zrp h with ⟨rfl,rfl⟩ | ⟨rfl,h1,h2⟩ | ⟨rfl,h1,h2⟩
 all_goals
  clear h;go_enter Tryz.func238,Tryz.ntmps238;go_wp2_with (go_at_call 171;refine (zaq _ _ _ (by omega)).mono ?_;rintro e w' ⟨rfl,rfl⟩);go_ret;exact ⟨rfl,rfl⟩
theorem zhq (t a:Int) (w:World) (hT:TS w) (h:zfe t a=false):Calls Tryz.prog 238 #[.int .i64 t,.int .i64 a] w fun e w'=>e=.returned (.bool false)∧w'=w:=by
 obtain ⟨x0,x1,x2⟩:=hT.cells;have h':¬ ((t=0∧a=0)∨(t=1∧0≤a∧a < 24)∨(t=2∧0≤a∧a < 32)):=of_decide_eq_false h;clear hT h
 rcases (show (t=0∧¬ (0≤a∧a < 1))∨(t=1∧¬ (0≤a∧a < 24))∨(t=2∧¬ (0≤a∧a < 32))∨¬ (0≤t∧t < 3) by omega) with ⟨rfl,ha⟩ | ⟨rfl,ha⟩ | ⟨rfl,ha⟩ | ha
 all_goals
  have H:=zaa ha;clear h' ha;go_enter Tryz.func238,Tryz.ntmps238;go_wp2_with (first | (go_at_call 171;refine (zaq _ _ _ (by omega)).mono ?_;rintro e w' ⟨rfl,rfl⟩) | (go_at_call 171;refine (zbi _ _ _ H.o).mono ?_;rintro e w' ⟨rfl,rfl⟩));go_ret;exact ⟨rfl,rfl⟩
theorem zla (t a:Int) (w:World) (hT:TS w):Calls Tryz.prog 180 #[.int .i64 t,.int .i64 a] w fun e w'=>e=.returned (.tuple #[.int .i64 (entV t a),.int .i64 (entC t a)])∧w'=w:=by
 by_cases c:zfe t a=true
 ·have E:=zaa (yask c);have C:=zaa c;have b:=zrp c;have T:=zaa hT
  have t0:0≤t∧t < 3:=by omega
  have a0:0≤a∧a < 32:=by omega
  obtain ⟨t1,t2⟩:=t0;obtain ⟨a1,a2⟩:=a0;clear b c hT;go_enter Tryz.func180,Tryz.ntmps180;go_wp2_with (go_at_call 238;refine (zks _ _ _ T.o C.o).mono ?_;rintro e w' ⟨rfl,rfl⟩);go_ret2;exact ⟨zbt (by rw[E.o.1]) E.o.2.symm,rfl⟩
 ·have c':zfe t a=false:=by simpa using c
  have E:=zaa (yaqc c');have C:=zaa c';have T:=zaa hT;clear c c' hT;go_enter Tryz.func180,Tryz.ntmps180;go_wp2_with (go_at_call 238;refine (zhq _ _ _ T.o C.o).mono ?_;rintro e w' ⟨rfl,rfl⟩);go_ret2;exact ⟨zbt E.o.1.symm E.o.2.symm,rfl⟩
theorem zdv (n:Int) (w:World) (hT:TS w) (h0:-9223372036854775808≤n) (h1:n≤9223372036854775807):Calls Tryz.prog 172 #[.int .i64 n] w fun e w'=>e=.returned (.tuple #[.int .i64 (tieT n),.int .i64 (tieA n),.int .i64 (tieC n)])∧w'=w:=by
 have T:=zaa hT;clear hT
 by_cases c0:0≤n
 ·by_cases c:zfe (n % 4) (n / 4)=true
  ·have E:=zaa (zrw (e:=n) (by unfold zfu;rw[c,decide_eq_true c0];rfl));have C:=zaa c;clear c;go_enter Tryz.func172,Tryz.ntmps172;go_wp2_with (go_at_call 238;refine (zks _ _ _ T.o C.o).mono ?_;rintro e w' ⟨rfl,rfl⟩);go_ret3;exact ⟨zoe (by rw[E.o.1]) (by rw[E.o.2.1]) E.o.2.2.symm,rfl⟩
  ·have c':zfe (n % 4) (n / 4)=false:=by simpa using c
   have E:=zaa (yaab (e:=n) (by unfold zfu;rw[c'];simp));have C:=zaa c';clear c c';go_enter Tryz.func172,Tryz.ntmps172;go_wp2_with (go_at_call 238;refine (zhq _ _ _ T.o C.o).mono ?_;rintro e w' ⟨rfl,rfl⟩);go_ret3;exact ⟨zoe E.o.1.symm E.o.2.1.symm E.o.2.2.symm,rfl⟩
 ·have E:=zaa (yaab (e:=n) (by unfold zfu;rw[decide_eq_false c0];rfl));go_enter Tryz.func172,Tryz.ntmps172;go_wp2_with (go_at_call 238;refine (zhq _ _ _ T.o (yajd (by omega))).mono ?_;rintro e w' ⟨rfl,rfl⟩);go_ret3;exact ⟨zoe E.o.1.symm E.o.2.1.symm E.o.2.2.symm,rfl⟩
theorem zmj (t a:Int) (w:World) (h:0≤t∧t < 3) (k:0≤a∧a < 32):Calls Tryz.prog 142 #[.int .i64 t,.int .i64 a] w fun e w'=>e=.returned (.int .i64 (4*a+t))∧w'=w:=by
 go_enter Tryz.func142,Tryz.ntmps142;go_wp2;go_ret;exact ⟨rfl,rfl⟩
theorem zdt (n:Int) (w:World) (h0:0≤n) (h1:n≤9223372036854775807):Calls Tryz.prog 220 #[.int .i64 n] w fun e w'=>e=.returned (.tuple #[.int .i64 (n % 4),.int .i64 (n / 4)])∧w'=w:=by
 go_enter Tryz.func220,Tryz.ntmps220;go_wp2;go_ret2;exact ⟨rfl,rfl⟩
theorem zxn (n:Int) (w:World) (h0:n < 0) (h1:-9223372036854775808≤n):Calls Tryz.prog 220 #[.int .i64 n] w fun e w'=>(∃ x y:Int,e=.returned (.tuple #[.int .i64 x,.int .i64 y]))∧w'=w:=by
 go_enter Tryz.func220,Tryz.ntmps220;go_wp2;go_ret2;exact ⟨⟨_,_,rfl⟩,rfl⟩
theorem zdw (n:Int) (w:World) (h0:-9223372036854775808≤n) (h1:n≤9223372036854775807):Calls Tryz.prog 270 #[.int .i64 n] w fun e w'=>e=.returned (.bool (zfu n))∧w'=w:=by
 rcases (show n < 0∨n=0∨0 < n by omega) with c | rfl | c
 ·have E:=zaa (show zfu n=false by unfold zfu;rw[decide_eq_false (by omega)];rfl)
  have q0:(n == 0)=false:=by rw[beq_eq_false_iff_ne];omega
  have q1:¬ 0 < n:=by omega
  go_enter Tryz.func270,Tryz.ntmps270;go_wp2_with fail;refine (zxn _ _ c h0).mono ?_;rintro e w' ⟨⟨x,y,rfl⟩,rfl⟩;go_wp2;go_ret;exact ⟨zaf E.o.symm,rfl⟩
 ·go_enter Tryz.func270,Tryz.ntmps270;go_wp2;go_ret;exact ⟨zaf (by decide),rfl⟩
 ·have q0:(n == 0)=false:=by rw[beq_eq_false_iff_ne];omega
  have E:=zaa (show zfu n=zfe (n % 4) (n / 4) by unfold zfu;rw[decide_eq_true (by omega)];rfl)
  rcases (show (n % 4=1∧n / 4 < 24)∨(n % 4=1∧¬ n / 4 < 24)∨(n % 4=2∧n / 4 < 32)∨(n % 4=2∧¬ n / 4 < 32)∨(¬ n % 4=1∧¬ n % 4=2) by omega) with ⟨r,q⟩ | ⟨r,q⟩ | ⟨r,q⟩ | ⟨r,q⟩ | ⟨r,q⟩
  ·have A:=zaa (yaak (t:=n % 4) (a:=n / 4) (by omega))
   have r1:(n % 4 == 1)=true:=by rw[beq_iff_eq];exact r
   clear r;go_enter Tryz.func270,Tryz.ntmps270;go_wp2_with fail;refine (zdt _ _ (by omega) h1).mono ?_;rintro e w' ⟨rfl,rfl⟩;go_wp2;go_ret;exact ⟨zaf (by rw[E.o,A.o];first | done | exact decide_eq_false (by omega)),rfl⟩
  ·have A:=zaa (zkg (t:=n % 4) (a:=n / 4) (by omega))
   have r1:(n % 4 == 1)=true:=by rw[beq_iff_eq];exact r
   have r2:(n % 4 == 2)=false:=by rw[beq_eq_false_iff_ne];omega
   clear r;go_enter Tryz.func270,Tryz.ntmps270;go_wp2_with fail;refine (zdt _ _ (by omega) h1).mono ?_;rintro e w' ⟨rfl,rfl⟩;go_wp2;go_ret;exact ⟨zaf (by rw[E.o,A.o];first | done | exact decide_eq_false (by omega)),rfl⟩
  ·have A:=zaa (yaak (t:=n % 4) (a:=n / 4) (by omega))
   have r1:(n % 4 == 1)=false:=by rw[beq_eq_false_iff_ne];omega
   have r2:(n % 4 == 2)=true:=by rw[beq_iff_eq];exact r
   clear r;go_enter Tryz.func270,Tryz.ntmps270;go_wp2_with fail;refine (zdt _ _ (by omega) h1).mono ?_;rintro e w' ⟨rfl,rfl⟩;go_wp2;go_ret;exact ⟨zaf (by rw[E.o,A.o];first | done | exact decide_eq_false (by omega)),rfl⟩
  ·have A:=zaa (zkg (t:=n % 4) (a:=n / 4) (by omega))
   have r1:(n % 4 == 1)=false:=by rw[beq_eq_false_iff_ne];omega
   have r2:(n % 4 == 2)=true:=by rw[beq_iff_eq];exact r
   clear r;go_enter Tryz.func270,Tryz.ntmps270;go_wp2_with fail;refine (zdt _ _ (by omega) h1).mono ?_;rintro e w' ⟨rfl,rfl⟩;go_wp2;go_ret;exact ⟨zaf (by rw[E.o,A.o];first | done | exact decide_eq_false (by omega)),rfl⟩
  ·have A:=zaa (zkg (t:=n % 4) (a:=n / 4) (by omega))
   have r1:(n % 4 == 1)=false:=by rw[beq_eq_false_iff_ne];exact r
   have r2:(n % 4 == 2)=false:=by rw[beq_eq_false_iff_ne];exact q
   clear r q;go_enter Tryz.func270,Tryz.ntmps270;go_wp2_with fail;refine (zdt _ _ (by omega) h1).mono ?_;rintro e w' ⟨rfl,rfl⟩;go_wp2;go_ret;exact ⟨zaf (by rw[E.o,A.o];first | done | exact decide_eq_false (by omega)),rfl⟩
def entB (i:Nat) (z size:Int):Bool:=zfu z && (z == 0 || decide ((i:Int) < size))
def yaei (zs:List Int) (size:Int) (k:Nat):Prop:=∀ i,i < k→entB i (zs.getD i 0) size=true
def mapB (zs:List Int) (size:Int):Bool:=(List.range 8).all fun i=>entB i (zs.getD i 0) size
theorem yajp {zs:List Int} {size:Int} (h:yaei zs size 8):mapB zs size=true:=by
 unfold mapB;rw[List.all_eq_true];intro i hi;exact h i (List.mem_range.1 hi)
theorem ztm {zs:List Int} {size:Int} (h:mapB zs size=true):yaei zs size 8:=by
 unfold mapB at h;rw[List.all_eq_true] at h;intro i hi;exact h i (List.mem_range.2 hi)
theorem yalk {zs:List Int} {size:Int} {k:Nat} (hk:k < 8) (h:entB k (zs.getD k 0) size=false):mapB zs size=false:=by
 rw[Bool.eq_false_iff];intro e;rw[ztm e k hk] at h;exact absurd h (by decide)
theorem yacw {zs:List Int} {size:Int} {k:Nat} (h:yaei zs size k) (g:entB k (zs.getD k 0) size=true):yaei zs size (k+1):=by
 intro i hi
 by_cases e:i=k
 ·rw[e];exact g
 ·exact h i (by omega)
def zjq (x:Ino):Bool:=if x.kind=0 then decide (x.size=0∧x.links=0∧x.map=[0,0,0,0,0,0,0,0]) else if x.kind=2 then x.size == 0 && x.links == 1 else decide (0 < x.links)
def zes (x:Ino):Bool:=decide (0≤x.kind∧x.kind≤2) && (decide (0≤x.size∧x.size≤8) && (decide (0≤x.links∧x.links≤24) && (mapB x.map x.size && zjq x)))
def Ino.R (x:Ino):Prop:=∀ z∈x.map,-9223372036854775808≤z∧z≤9223372036854775807
theorem Ino.len (x:Ino):x.map.length=8:=rfl
theorem Ino.at (x:Ino) (k:Nat) (hk:k < 8):x.cs[3+k]?=some (.int .i64 (x.map.getD k 0)):=by
 rcases (show k=0∨k=1∨k=2∨k=3∨k=4∨k=5∨k=6∨k=7 by omega) with rfl | rfl | rfl | rfl | rfl | rfl | rfl | rfl <;> rfl
theorem Ino.R.at {x:Ino} (h:x.R) (k:Nat) (hk:k < 8):-9223372036854775808≤x.map.getD k 0∧x.map.getD k 0≤9223372036854775807:=by
 have e:x.map.getD k 0=x.map[k]'(by rw[x.len];exact hk):=by rw[List.getD_eq_getElem?_getD,List.getElem?_eq_getElem (by rw[x.len];exact hk)];rfl
 rw[e];exact h _ (List.getElem_mem _)
@[go_sem] theorem yasy (m0 m1 m2 m3 m4 m5 m6 m7:Int) (w:World):(Op.equalIn 9999 131 (.agg #[.int .i64 m0,.int .i64 m1,.int .i64 m2,.int .i64 m3,.int .i64 m4,.int .i64 m5,.int .i64 m6,.int .i64 m7]) (.agg #[.int .i64 0,.int .i64 0,.int .i64 0,.int .i64 0,.int .i64 0,.int .i64 0,.int .i64 0,.int .i64 0])).run Tryz.prog w=.ok (decide ([m0,m1,m2,m3,m4,m5,m6,m7]=[0,0,0,0,0,0,0,0])) w:=by
 have u3:=Tryz.underlying3;have a3:=Tryz.isAgg3;have z3:=Tryz.sizeOf3;rw[show (9999:Nat)=9998+1 from rfl,Op.equalIn];simp only[Sem.run_bind,run_underlying Tryz.underlying131,Result.andThen_ok];simp only[Std.Legacy.Range.forIn_eq_forIn_range',Std.Legacy.Range.size,Nat.sub_zero,Nat.add_sub_cancel,Nat.div_one,List.range'_succ,List.range'_zero,List.forIn_cons,List.forIn_nil];go_simp
 by_cases h0:m0=0
 case neg=>simp[h0]
 by_cases h1:m1=0
 case neg=>simp[h0,h1]
 by_cases h2:m2=0
 case neg=>simp[h0,h1,h2]
 by_cases h3:m3=0
 case neg=>simp[h0,h1,h2,h3]
 by_cases h4:m4=0
 case neg=>simp[h0,h1,h2,h3,h4]
 by_cases h5:m5=0
 case neg=>simp[h0,h1,h2,h3,h4,h5]
 by_cases h6:m6=0
 case neg=>simp[h0,h1,h2,h3,h4,h5,h6]
 by_cases h7:m7=0
 case neg=>simp[h0,h1,h2,h3,h4,h5,h6,h7]
 simp[h0,h1,h2,h3,h4,h5,h6,h7]
theorem zww (x:Ino) (w:World) (hr:x.R):Calls Tryz.prog 214 #[x.v] w fun e w'=>e=.returned (.bool (zes x))∧Below w.heap.size w w':=by
 have hv:x.v=.agg x.cs.toArray:=rfl;have c0:(w.alloc (.cells x.cs.toArray 133)).cell? ⟨w.heap.size,0,none⟩=some (.int .i64 x.kind):=(zae (xs:=x.cs) (zah rfl) 0).1;have c1:(w.alloc (.cells x.cs.toArray 133)).cell? ⟨w.heap.size,1,none⟩=some (.int .i64 x.size):=(zae (xs:=x.cs) (zah rfl) 1).1;have c2:(w.alloc (.cells x.cs.toArray 133)).cell? ⟨w.heap.size,2,none⟩=some (.int .i64 x.links):=(zae (xs:=x.cs) (zah rfl) 2).1;have CM:=zaa (show ∀ k,k < 8→(w.alloc (.cells x.cs.toArray 133)).cell? ⟨w.heap.size,3+k,none⟩=some (.int .i64 (x.map.getD k 0)) from fun k hk=>((zae (xs:=x.cs) (zah rfl) (3+k)).1).trans (x.at k hk));have B:=zaa ((Below.refl w.heap.size w).alloc (Nat.le_refl _) (.cells x.cs.toArray 133));rw[hv]
 by_cases h0:0≤x.kind∧x.kind≤2
 ·by_cases h1:0≤x.size∧x.size≤8
  ·by_cases h2:0≤x.links∧x.links≤24
   ·have E:=zaa (show zes x=(mapB x.map x.size && zjq x) by unfold zes;rw[decide_eq_true h0,decide_eq_true h1,decide_eq_true h2];rfl);have H:=zaa (And.intro h0 (And.intro h1 h2));clear h0 h1 h2;go_enter Tryz.func214,Tryz.ntmps214;go_wp2_with fail;refine (zar _ _ _ _ H.o.1).mono ?_;rintro e w' ⟨rfl,rfl⟩;go_wp2_with fail;refine (zar _ _ _ _ H.o.2.1).mono ?_;rintro e w' ⟨rfl,rfl⟩;go_wp2_with fail;refine (zar _ _ _ _ H.o.2.2).mono ?_;rintro e w' ⟨rfl,rfl⟩;go_wp2
    obtain ⟨wa,hwa⟩:∃ wa,wa=w.alloc (.cells x.cs.toArray 133):=⟨_,rfl⟩
    rw[← hwa] at c0 c1 c2 CM B ⊢;have CA:=zaa (show ∀ j,wa.cell? ⟨w.heap.size,j,none⟩=x.cs[j]? by rw[hwa];exact fun j=>(zae (xs:=x.cs) (zah rfl) j).1);clear hwa
    go_loopw [3] (fun i wr=>∃ k:Nat,k≤8∧i=.int .i64 k∧wr=wa∧Hid (yaei x.map x.size k)) (fun i _=>8 - (intOf i).toNat)
    case atStart=>exact ⟨0,by omega,rfl,rfl,fun i hi=>absurd hi (by omega)⟩
    case round =>
     obtain ⟨k,hk,rfl,rfl,M⟩:=hrel
     by_cases hlt:k < 8
     ·have c3:=CM.o k hlt;obtain ⟨r0,r1⟩:=hr.at k hlt
      have k0:(0:Int)≤(k:Int):=by omega
      have k1:(k:Int) < 8:=by omega
      have MN:=zaa (fun e=>yalk (zs:=x.map) (size:=x.size) hlt e);have MS:=zaa (fun e=>yacw (k:=k) M.o e);generalize x.map.getD k 0=z at c3 r0 r1 MN MS;clear CM CA M
      cases ht:zfu z with
      | false =>
       have F:=zaa (show zes x=false by rw[E.o,MN.o (by unfold entB;rw[ht];rfl),Bool.false_and]);have T:=zaa ht;clear ht MN MS E;go_wp2_with fail;refine (zdw _ _ r0 r1).mono ?_;rintro e w' ⟨rfl,rfl⟩;rw[T.o];go_wp2;go_ret;exact ⟨zaf F.o.symm,B.o⟩
      | true =>
       by_cases hz:z=0
       ·have q:(z != 0)=false:=by rw[hz];rfl
        have G:=zaa (MS.o (by unfold entB;rw[ht,hz];rfl));have T:=zaa ht;clear ht MN MS hz;go_wp2_with fail;refine (zdw _ _ r0 r1).mono ?_;rintro e w' ⟨rfl,rfl⟩;rw[T.o];go_wp2
        go_roundw
        case rel=>exact ⟨k+1,by omega,by go_num,trivial,G⟩
        case measure=>simp[intOf];omega
       ·have q:(z != 0)=true:=by rw[bne_iff_ne];exact hz
        have qz:(z == 0)=false:=by rw[beq_eq_false_iff_ne];exact hz
        by_cases hs:(k:Int) < x.size
        ·have q2:¬ x.size≤(k:Int):=by omega
         have G:=zaa (MS.o (by unfold entB;rw[ht,qz,decide_eq_true hs];rfl));have T:=zaa ht;clear ht MN MS hz hs qz;go_wp2_with fail;refine (zdw _ _ r0 r1).mono ?_;rintro e w' ⟨rfl,rfl⟩;rw[T.o];go_wp2
         go_roundw
         case rel=>exact ⟨k+1,by omega,by go_num,trivial,G⟩
         case measure=>simp[intOf];omega
        ·have q2:x.size≤(k:Int):=by omega
         have F:=zaa (show zes x=false by rw[E.o,MN.o (by unfold entB;rw[ht,qz,decide_eq_false hs];rfl),Bool.false_and]);have T:=zaa ht;clear ht MN MS hz hs qz E;go_wp2_with fail;refine (zdw _ _ r0 r1).mono ?_;rintro e w' ⟨rfl,rfl⟩;rw[T.o];go_wp2;go_ret;exact ⟨zaf F.o.symm,B.o⟩
     ·obtain rfl:k=8:=by omega
      have F:=zaa (show zes x=zjq x by rw[E.o,yajp M.o,Bool.true_and]);clear E M CM
      rcases (show x.kind=0∨x.kind=1∨x.kind=2 by have:=H.o;omega) with hz | hz | hz
      ·have K:=zaa (show zjq x=decide (x.size=0∧x.links=0∧x.map=[0,0,0,0,0,0,0,0]) by unfold zjq;rw[if_pos hz]);rw[hz] at c0;have c3:wr.cell? ⟨w.heap.size,3,none⟩=some (.int .i64 x.m0):=CA.o 3;have c4:wr.cell? ⟨w.heap.size,4,none⟩=some (.int .i64 x.m1):=CA.o 4;have c5:wr.cell? ⟨w.heap.size,5,none⟩=some (.int .i64 x.m2):=CA.o 5;have c6:wr.cell? ⟨w.heap.size,6,none⟩=some (.int .i64 x.m3):=CA.o 6;have c7:wr.cell? ⟨w.heap.size,7,none⟩=some (.int .i64 x.m4):=CA.o 7;have c8:wr.cell? ⟨w.heap.size,8,none⟩=some (.int .i64 x.m5):=CA.o 8;have c9:wr.cell? ⟨w.heap.size,9,none⟩=some (.int .i64 x.m6):=CA.o 9;have c10:wr.cell? ⟨w.heap.size,10,none⟩=some (.int .i64 x.m7):=CA.o 10;clear CA;go_wp2
       all_goals
        go_ret;refine ⟨zaf ?_,B.o⟩;rw[F.o,K.o,eq_comm];clear c0 c1 c2 c3 c4 c5 c6 c7 c8 c9 c10;rename_i h9
        simp_all [Ino.map]
      ·have K:=zaa (show zjq x=decide (0 < x.links) by unfold zjq;rw[if_neg (by omega),if_neg (by omega)]);rw[hz] at c0;clear CA;go_wp2;go_ret;exact ⟨zaf (by rw[F.o,K.o]),B.o⟩
      ·have K:=zaa (show zjq x=(x.size == 0 && x.links == 1) by unfold zjq;rw[if_neg (by omega),if_pos hz]);rw[hz] at c0;clear CA
       cases hq:(x.size == 0)
       all_goals
        rw[hq] at K;go_wp2;go_ret;exact ⟨zaf (by rw[F.o,K.o];rfl),B.o⟩
   ·have E:=zaa (show zes x=false by unfold zes;rw[decide_eq_false h2,Bool.false_and,Bool.and_false,Bool.and_false]);go_enter Tryz.func214,Tryz.ntmps214;go_wp2_with fail;refine (zar _ _ _ _ h0).mono ?_;rintro e w' ⟨rfl,rfl⟩;go_wp2_with fail;refine (zar _ _ _ _ h1).mono ?_;rintro e w' ⟨rfl,rfl⟩;go_wp2_with fail;refine (zcg _ _ _ _ h2).mono ?_;rintro e w' ⟨rfl,rfl⟩;go_wp2;go_ret;exact ⟨zaf E.o.symm,B.o⟩
  ·have E:=zaa (show zes x=false by unfold zes;rw[decide_eq_false h1,Bool.false_and,Bool.and_false]);go_enter Tryz.func214,Tryz.ntmps214;go_wp2_with fail;refine (zar _ _ _ _ h0).mono ?_;rintro e w' ⟨rfl,rfl⟩;go_wp2_with fail;refine (zcg _ _ _ _ h1).mono ?_;rintro e w' ⟨rfl,rfl⟩;go_wp2;go_ret;exact ⟨zaf E.o.symm,B.o⟩
 ·have E:=zaa (show zes x=false by unfold zes;rw[decide_eq_false h0,Bool.false_and]);go_enter Tryz.func214,Tryz.ntmps214;go_wp2_with fail;refine (zcg _ _ _ _ h0).mono ?_;rintro e w' ⟨rfl,rfl⟩;go_wp2;go_ret;exact ⟨zaf E.o.symm,B.o⟩
end Go.Proofs.YtehnphoeplmpdaaGreatDoor
