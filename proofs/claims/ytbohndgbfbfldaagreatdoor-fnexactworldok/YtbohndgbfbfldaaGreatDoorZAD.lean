/- Several texts laid together: Nm, Wd, ImA, Wt. -/
import Derived.Test.YtbohndgbfbfldaaGreatDoorMem
import Derived.Test.YtbohndgbfbfldaaGreatDoorZAC
import Derived.Laws.IdiomStrings
import Derived.Laws.BytesArg
import Derived.Deep.OwnRows
import Derived.Test.YtbohndgbfbfldaaGreatDoorZAB
import Derived.BigQuiet
import Derived.Deep.QuietTactic
set_option maxRecDepth 100000
set_option maxHeartbeats 4000000
namespace Go.Proofs.YtbohndgbfbfldaaGreatDoor
open Go.RowKit
theorem zqg {a b:ByteArray} {c d:Int} (h:a=b) (k:c=d):Ending.returned (.tuple #[.string a,.int .i64 c])=.returned (.tuple #[.string b,.int .i64 d]):=by rw[h,k]
theorem yaaa {a b:ByteArray} {c d:Bool} (h:a=b) (k:c=d):Ending.returned (.tuple #[.string a,.bool c])=.returned (.tuple #[.string b,.bool d]):=by rw[h,k]
theorem zsc (n:Int) (w:World) (h:1≤n∧n≤6):Calls Tryz.prog 80 #[.int .i64 n,.int .i64 1,.int .i64 6] w fun e w'=>e=.returned (.bool true)∧w'=w:=by
 obtain ⟨h1,h2⟩:=h;go_enter Tryz.func80,Tryz.ntmps80;go_wp2;go_ret;exact ⟨rfl,rfl⟩
theorem zwb (n:Int) (w:World) (h:¬ (1≤n∧n≤6)):Calls Tryz.prog 80 #[.int .i64 n,.int .i64 1,.int .i64 6] w fun e w'=>e=.returned (.bool false)∧w'=w:=by
 rcases (show ¬ 1≤n∨(1≤n∧¬ n≤6) by omega) with h1 | ⟨h1,h2⟩
 all_goals
  clear h;go_enter Tryz.func80,Tryz.ntmps80;go_wp2;go_ret;exact ⟨rfl,rfl⟩
theorem zcp (s:ByteArray) (w:World) (hs:s.size≤maxLen):Calls Tryz.prog 171 #[.string s] w fun e w'=>e=.returned (.bool (nmB s))∧w'=w:=by
 unfold maxLen at hs
 by_cases c:1≤s.size∧s.size≤6
 ·have c':1≤(s.size:Int)∧(s.size:Int)≤6:=by omega
  have C:=zaa c';obtain ⟨c1,c2⟩:=c;clear c';go_enter Tryz.func171,Tryz.ntmps171;go_wp2_with (go_at_call 80;refine (zsc _ _ C.o).mono ?_;rintro e w' ⟨rfl,rfl⟩)
  go_loop [3] (fun i=>∃ k:Nat,k≤s.size∧i=.int .i64 k∧Hid (∀ j (h:j < s.size),j < k→97≤s[j].toNat∧s[j].toNat≤122)) (fun i=>s.size - (intOf i).toNat)
  case atStart=>exact ⟨0,by omega,rfl,fun j h b=>absurd b (by omega)⟩
  case round =>
   obtain ⟨k,hk,rfl,H⟩:=hrel
   by_cases hlt:k < s.size
   ·rcases (show ((s[k].toNat:Int) < 97)∨(¬ ((s[k].toNat:Int) < 97)∧(122:Int) < (s[k].toNat:Int))∨(¬ ((s[k].toNat:Int) < 97)∧¬ (122:Int) < (s[k].toNat:Int)) by omega) with d | ⟨d,d'⟩ | ⟨d,d'⟩
    ·have E:=zaa (zii hlt (by omega));go_wp2;go_ret;exact ⟨zac E.o.symm,rfl⟩
    ·have E:=zaa (zii hlt (by omega));go_wp2;go_ret;exact ⟨zac E.o.symm,rfl⟩
    ·go_wp2
     go_round
     case rel =>
      refine ⟨k+1,by omega,by go_num,fun j h b=>?_⟩
      by_cases e:j=k
      ·subst e;omega
      ·exact H.o j h (by omega)
     case measure=>simp[intOf];omega
   ·have E:=zaa (zpf c1 c2 (fun j h=>H.o j h (by omega)));go_wp2;go_ret;exact ⟨zac E.o.symm,rfl⟩
 ·have c':¬ (1≤(s.size:Int)∧(s.size:Int)≤6):=by omega
  have C:=zaa c';have E:=zaa (show nmB s=false from decide_eq_false (fun x=>c ⟨x.1,x.2.1⟩));clear c c';go_enter Tryz.func171,Tryz.ntmps171;go_wp2_with (go_at_call 80;refine (zwb _ _ C.o).mono ?_;rintro e w' ⟨rfl,rfl⟩);go_ret;exact ⟨zac E.o.symm,rfl⟩
theorem zuf {s:ByteArray} (h:65536 < s.size):zmi s=0∧zjc s=2:=by
 unfold zmi zjc;rw[if_neg (by rw[zkt (by omega)];simp),if_pos h];exact ⟨rfl,rfl⟩
theorem zhe {s:ByteArray} (h:¬ 65536 < s.size) (h2:nmB s=false):zmi s=0∧zjc s=12:=by
 unfold zmi zjc;rw[h2,if_neg h];exact ⟨rfl,rfl⟩
theorem zyh {s:ByteArray} (h:nmB s=true):zmi s=((pk s s.size:Nat):Int)∧zjc s=0:=by
 unfold zmi zjc;have:=(zwp h).2.1;rw[if_pos h,if_neg (by omega),if_pos h];exact ⟨rfl,rfl⟩
theorem zgz (s:ByteArray) (w:World) (hs:s.size≤maxLen):Calls Tryz.prog 216 #[.string s] w fun e w'=>e=.returned (.tuple #[.int .i64 (zmi s),.int .i64 (zjc s)])∧Below w.heap.size w w':=by
 unfold maxLen at hs
 by_cases c0:65536 < s.size
 ·have E:=zaa (zuf c0);go_enter Tryz.func216,Tryz.ntmps216;go_wp2;go_ret2;exact ⟨zgb E.o.1.symm E.o.2.symm,Below.refl _ _⟩
 by_cases c1:s.size < 1
 ·have E:=zaa (zhe c0 (zny c1));go_enter Tryz.func216,Tryz.ntmps216;go_wp2;go_ret2;exact ⟨zgb E.o.1.symm E.o.2.symm,Below.refl _ _⟩
 by_cases c2:6 < s.size
 ·have E:=zaa (zhe c0 (zkt c2));go_enter Tryz.func216,Tryz.ntmps216;go_wp2;go_ret2;exact ⟨zgb E.o.1.symm E.o.2.symm,Below.refl _ _⟩
 have hconv:=run_bytes_of_string (P:=Tryz.prog) w 9 203 5 s Tryz.underlying9 Tryz.underlying203 Tryz.underlying5;generalize hcap:grownCap w s.size 0 5=cap at hconv
 have CELL:Hid (∀ k (h:k < s.size),(w.drew.alloc (.cells (bytesRow s cap) 5 ((bytesRow s cap).size,(bytesRow s cap).size+1))).cell? ⟨w.heap.size,k,none⟩=some (.int .u8 (s[k].toNat:Int))):=fun k h=>by
  have e:=World.cell?_alloc_mark w.drew (bytesRow s cap) 5 ((bytesRow s cap).size,(bytesRow s cap).size+1) k;rw[bytesRow_at s cap k h] at e;exact e
 have BB:Hid (Below w.heap.size w (w.drew.alloc (.cells (bytesRow s cap) 5 ((bytesRow s cap).size,(bytesRow s cap).size+1)))):=((Below.refl _ _).drew).alloc (Nat.le_refl _) _;clear hcap;generalize w.drew.alloc (.cells (bytesRow s cap) 5 ((bytesRow s cap).size,(bytesRow s cap).size+1))=w1 at hconv CELL BB;go_enter Tryz.func216,Tryz.ntmps216;go_wp2
 go_loop [4,6,21] (fun n _ i=>∃ k:Nat,k≤s.size∧i=.int .i64 k∧n=.int .i64 ((pk s k:Nat):Int)∧Hid (∀ j (h:j < s.size),j < k→97≤s[j].toNat∧s[j].toNat≤122)) (fun _ _ i=>s.size - (intOf i).toNat)
 case atStart=>exact ⟨0,by omega,rfl,by rw[yaaq];rfl,fun j h b=>absurd b (by omega)⟩
 case round =>
  obtain ⟨k,hk,rfl,rfl,H⟩:=hrel
  by_cases hlt:k < s.size
  ·have x0:=CELL.o k hlt;have bd:pk s k < 387420489:=yael H.o (by omega);have SU:=zaa (yaan s k hlt);have b255:s[k].toNat < 256:=s[k].toNat_lt;have NO:=zaa (zii (s:=s) hlt)
   have NX:Hid (97≤s[k].toNat∧s[k].toNat≤122→∀ j (h:j < s.size),j < k+1→97≤s[j].toNat∧s[j].toNat≤122):=fun hx j h b=>by
    by_cases e:j=k
    ·subst e;exact hx
    ·exact H.o j h (by omega)
   generalize s[k].toNat=x at x0 SU b255 NO NX
   rcases (show ((x:Int) < 97)∨(¬ ((x:Int) < 97)∧(122:Int) < (x:Int))∨(¬ ((x:Int) < 97)∧¬ (122:Int) < (x:Int)) by omega) with d | ⟨d,d'⟩ | ⟨d,d'⟩
   ·have E:=zaa (zhe c0 (NO.o (by omega)));go_wp2;go_ret2;exact ⟨zgb E.o.1.symm E.o.2.symm,BB.o⟩
   ·have E:=zaa (zhe c0 (NO.o (by omega)));go_wp2;go_ret2;exact ⟨zgb E.o.1.symm E.o.2.symm,BB.o⟩
   ·go_wp2
    go_round
    case rel=>exact ⟨k+1,by omega,by go_num,by rw[SU.o];congr 1;omega,NX.o (by omega)⟩
    case measure=>simp[intOf];omega
  ·have ek:k=s.size:=by omega
   subst ek;have E:=zaa (zyh (zpf (s:=s) (by omega) (by omega) (fun j h=>H.o j h h)));go_wp2;go_ret2;exact ⟨zgb E.o.1.symm E.o.2.symm,BB.o⟩
theorem zak (n lo hi:Int) (w:World) (h:lo≤n∧n≤hi):Calls Tryz.prog 80 #[.int .i64 n,.int .i64 lo,.int .i64 hi] w fun e w'=>e=.returned (.bool true)∧w'=w:=by
 obtain ⟨h1,h2⟩:=h;go_enter Tryz.func80,Tryz.ntmps80;go_wp2;go_ret;exact ⟨rfl,rfl⟩
theorem zbg (n lo hi:Int) (w:World) (h:¬ (lo≤n∧n≤hi)):Calls Tryz.prog 80 #[.int .i64 n,.int .i64 lo,.int .i64 hi] w fun e w'=>e=.returned (.bool false)∧w'=w:=by
 rcases (show ¬ lo≤n∨(lo≤n∧¬ n≤hi) by omega) with h1 | ⟨h1,h2⟩
 all_goals
  clear h;go_enter Tryz.func80,Tryz.ntmps80;go_wp2;go_ret;exact ⟨rfl,rfl⟩
theorem zam (n hi:Int) (w:World) (h:0≤n∧n < hi):Calls Tryz.prog 182 #[.int .i64 n,.int .i64 hi] w fun e w'=>e=.returned (.bool true)∧w'=w:=by
 obtain ⟨h1,h2⟩:=h;go_enter Tryz.func182,Tryz.ntmps182;go_wp2;go_ret;exact ⟨rfl,rfl⟩
theorem zar (n hi:Int) (w:World) (h:¬ (0≤n∧n < hi)):Calls Tryz.prog 182 #[.int .i64 n,.int .i64 hi] w fun e w'=>e=.returned (.bool false)∧w'=w:=by
 rcases (show ¬ 0≤n∨(0≤n∧¬ n < hi) by omega) with h1 | ⟨h1,h2⟩
 all_goals
  clear h;go_enter Tryz.func182,Tryz.ntmps182;go_wp2;go_ret;exact ⟨rfl,rfl⟩
theorem zgg (i f:Int) (w:World) (h:0≤i∧i < 16) (k:0≤f∧f < 11):Calls Tryz.prog 152 #[.int .i64 i,.int .i64 f] w fun e w'=>e=.returned (.int .i64 (48+12*i+f))∧w'=w:=by
 go_enter Tryz.func152,Tryz.ntmps152;go_wp2;go_ret;exact ⟨zem (by first | rfl | omega | (go_num;omega)),rfl⟩
theorem zcj (i f:Int) (w:World) (h:0≤i∧i < 24) (k:0≤f∧f < 3):Calls Tryz.prog 168 #[.int .i64 i,.int .i64 f] w fun e w'=>e=.returned (.int .i64 (240+3*i+f))∧w'=w:=by
 go_enter Tryz.func168,Tryz.ntmps168;go_wp2;go_ret;exact ⟨zem (by first | rfl | omega | (go_num;omega)),rfl⟩
theorem zcb {w:World} {b:Nat} {t:TypeId} {xs:List Value} (h:w.heap[b]?=some (.cells xs.toArray t (0,0))) (j:Nat) (u:Value):(w.setCell ⟨b,j,none⟩ u).heap[b]?=some (.cells (xs.set j u).toArray t (0,0)):=by
 simp[World.setCell,Array.getElem?_modify,h]
theorem zat {w:World} {b:Nat} {t:TypeId} {xs:List Value} (h:w.heap[b]?=some (.cells xs.toArray t (0,0))) (j:Nat):w.cell? ⟨b,j,none⟩=xs[j]?∧w.frozen? ⟨b,j,none⟩=false:=by
 simp[World.cell?,World.frozen?,h]
structure Ino where
 kind:Int
 size:Int
 links:Int
 m0:Int
 m1:Int
 m2:Int
 m3:Int
 m4:Int
 m5:Int
 m6:Int
 m7:Int
def Ino.map (x:Ino):List Int:=[x.m0,x.m1,x.m2,x.m3,x.m4,x.m5,x.m6,x.m7]
def Ino.v (x:Ino):Value:=.agg #[.int .i64 x.kind,.int .i64 x.size,.int .i64 x.links,.int .i64 x.m0,.int .i64 x.m1,.int .i64 x.m2,.int .i64 x.m3,.int .i64 x.m4,.int .i64 x.m5,.int .i64 x.m6,.int .i64 x.m7]
def Ino.cs (x:Ino):List Value:=[.int .i64 x.kind,.int .i64 x.size,.int .i64 x.links,.int .i64 x.m0,.int .i64 x.m1,.int .i64 x.m2,.int .i64 x.m3,.int .i64 x.m4,.int .i64 x.m5,.int .i64 x.m6,.int .i64 x.m7]
def TS (w:World):Prop:=∃ t fr,w.heap[4]?=some (.cells #[.int .i64 1,.int .i64 24,.int .i64 32] t fr)
theorem TS.lt {w:World} (h:TS w):4 < w.heap.size:=by
 obtain ⟨t,fr,h⟩:=h;exact (Array.getElem?_eq_some_iff.1 h).1
theorem TS.below {w w':World} (h:TS w) (hb:Below w.heap.size w w'):TS w':=by
 have hl:=h.lt;obtain ⟨t,fr,h⟩:=h;exact ⟨t,fr,(hb.block _ hl).trans h⟩
theorem TS.cells {w:World} (h:TS w):w.cell? ⟨4,0,none⟩=some (.int .i64 1)∧w.cell? ⟨4,1,none⟩=some (.int .i64 24)∧w.cell? ⟨4,2,none⟩=some (.int .i64 32):=by
 obtain ⟨t,fr,h⟩:=h;simp[World.cell?,h]
def zhb (t a:Int):Bool:=decide ((t=0∧a=0)∨(t=1∧0≤a∧a < 24)∨(t=2∧0≤a∧a < 32))
theorem zrb {t a:Int} (h:(t=0∧a=0)∨(t=1∧0≤a∧a < 24)∨(t=2∧0≤a∧a < 32)):zhb t a=true:=decide_eq_true h
theorem zfj {t a:Int} (h:¬ ((t=0∧a=0)∨(t=1∧0≤a∧a < 24)∨(t=2∧0≤a∧a < 32))):zhb t a=false:=decide_eq_false h
theorem zrt {t a:Int} (h:zhb t a=true):(t=0∧a=0)∨(t=1∧0≤a∧a < 24)∨(t=2∧0≤a∧a < 32):=of_decide_eq_true h
def zet (e:Int):Bool:=decide (0≤e) && zhb (e % 4) (e / 4)
def tieT (e:Int):Int:=if zet e=true then e % 4 else 0
def tieA (e:Int):Int:=if zet e=true then e / 4 else 0
def tieC (e:Int):Int:=if zet e=true then 0 else 3
theorem yaaf {e:Int} (h:zet e=true):tieT e=e % 4∧tieA e=e / 4∧tieC e=0:=by unfold tieT tieA tieC;rw[if_pos h,if_pos h,if_pos h];exact ⟨rfl,rfl,rfl⟩
theorem zqf {e:Int} (h:zet e=false):tieT e=0∧tieA e=0∧tieC e=3:=by unfold tieT tieA tieC;rw[h];exact ⟨rfl,rfl,rfl⟩
theorem zvf {n:Int} (h:n < 0):zhb (n.tmod 4) (n.tdiv 4)=false:=by
 apply zfj
 obtain ⟨m,rfl⟩:∃ m:Int,n=-m:=⟨-n,by omega⟩
 rw[Int.neg_tmod,Int.neg_tdiv,Int.tmod_eq_emod_of_nonneg (by omega),Int.tdiv_eq_ediv_of_nonneg (by omega)];omega
theorem zic {a b c d e f:Int} (h:a=b) (k:c=d) (l:e=f):Ending.returned (.tuple #[.int .i64 a,.int .i64 c,.int .i64 e])=.returned (.tuple #[.int .i64 b,.int .i64 d,.int .i64 f]):=by rw[h,k,l]
theorem zjz (t a:Int) (w:World) (hT:TS w) (h:zhb t a=true):Calls Tryz.prog 212 #[.int .i64 t,.int .i64 a] w fun e w'=>e=.returned (.bool true)∧w'=w:=by
 obtain ⟨x0,x1,x2⟩:=hT.cells;clear hT
 rcases zrt h with ⟨rfl,rfl⟩ | ⟨rfl,h1,h2⟩ | ⟨rfl,h1,h2⟩
 all_goals
  clear h;go_enter Tryz.func212,Tryz.ntmps212;go_wp2_with (go_at_call 182;refine (zam _ _ _ (by omega)).mono ?_;rintro e w' ⟨rfl,rfl⟩);go_ret;exact ⟨rfl,rfl⟩
theorem zgn (t a:Int) (w:World) (hT:TS w) (h:zhb t a=false):Calls Tryz.prog 212 #[.int .i64 t,.int .i64 a] w fun e w'=>e=.returned (.bool false)∧w'=w:=by
 obtain ⟨x0,x1,x2⟩:=hT.cells;have h':¬ ((t=0∧a=0)∨(t=1∧0≤a∧a < 24)∨(t=2∧0≤a∧a < 32)):=of_decide_eq_false h;clear hT h
 rcases (show (t=0∧¬ (0≤a∧a < 1))∨(t=1∧¬ (0≤a∧a < 24))∨(t=2∧¬ (0≤a∧a < 32))∨¬ (0≤t∧t < 3) by omega) with ⟨rfl,ha⟩ | ⟨rfl,ha⟩ | ⟨rfl,ha⟩ | ha
 all_goals
  have H:=zaa ha;clear h' ha;go_enter Tryz.func212,Tryz.ntmps212;go_wp2_with (first | (go_at_call 182;refine (zam _ _ _ (by omega)).mono ?_;rintro e w' ⟨rfl,rfl⟩) | (go_at_call 182;refine (zar _ _ _ H.o).mono ?_;rintro e w' ⟨rfl,rfl⟩));go_ret;exact ⟨rfl,rfl⟩
theorem zej (n:Int) (w:World) (hT:TS w) (h0:-9223372036854775808≤n) (h1:n≤9223372036854775807):Calls Tryz.prog 195 #[.int .i64 n] w fun e w'=>e=.returned (.tuple #[.int .i64 (tieT n),.int .i64 (tieA n),.int .i64 (tieC n)])∧w'=w:=by
 have T:=zaa hT;clear hT
 by_cases c0:0≤n
 ·by_cases c:zhb (n % 4) (n / 4)=true
  ·have E:=zaa (yaaf (e:=n) (by unfold zet;rw[c,decide_eq_true c0];rfl));have C:=zaa c;clear c;go_enter Tryz.func195,Tryz.ntmps195;go_wp2_with (go_at_call 212;refine (zjz _ _ _ T.o C.o).mono ?_;rintro e w' ⟨rfl,rfl⟩);go_ret3;exact ⟨zic (by rw[E.o.1]) (by rw[E.o.2.1]) E.o.2.2.symm,rfl⟩
  ·have c':zhb (n % 4) (n / 4)=false:=by simpa using c
   have E:=zaa (zqf (e:=n) (by unfold zet;rw[c'];simp));have C:=zaa c';clear c c';go_enter Tryz.func195,Tryz.ntmps195;go_wp2_with (go_at_call 212;refine (zgn _ _ _ T.o C.o).mono ?_;rintro e w' ⟨rfl,rfl⟩);go_ret3;exact ⟨zic E.o.1.symm E.o.2.1.symm E.o.2.2.symm,rfl⟩
 ·have E:=zaa (zqf (e:=n) (by unfold zet;rw[decide_eq_false c0];rfl));go_enter Tryz.func195,Tryz.ntmps195;go_wp2_with (go_at_call 212;refine (zgn _ _ _ T.o (zvf (by omega))).mono ?_;rintro e w' ⟨rfl,rfl⟩);go_ret3;exact ⟨zic E.o.1.symm E.o.2.1.symm E.o.2.2.symm,rfl⟩
theorem zcr (n:Int) (w:World) (h0:0≤n) (h1:n≤9223372036854775807):Calls Tryz.prog 200 #[.int .i64 n] w fun e w'=>e=.returned (.tuple #[.int .i64 (n % 4),.int .i64 (n / 4)])∧w'=w:=by
 go_enter Tryz.func200,Tryz.ntmps200;go_wp2;go_ret2;exact ⟨rfl,rfl⟩
theorem zoz (n:Int) (w:World) (h0:n < 0) (h1:-9223372036854775808≤n):Calls Tryz.prog 200 #[.int .i64 n] w fun e w'=>(∃ x y:Int,e=.returned (.tuple #[.int .i64 x,.int .i64 y]))∧w'=w:=by
 go_enter Tryz.func200,Tryz.ntmps200;go_wp2;go_ret2;exact ⟨⟨_,_,rfl⟩,rfl⟩
theorem zca (n:Int) (w:World) (h0:-9223372036854775808≤n) (h1:n≤9223372036854775807):Calls Tryz.prog 170 #[.int .i64 n] w fun e w'=>e=.returned (.bool (zet n))∧w'=w:=by
 rcases (show n < 0∨n=0∨0 < n by omega) with c | rfl | c
 ·have E:=zaa (show zet n=false by unfold zet;rw[decide_eq_false (by omega)];rfl)
  have q0:(n == 0)=false:=by rw[beq_eq_false_iff_ne];omega
  have q1:¬ 0 < n:=by omega
  go_enter Tryz.func170,Tryz.ntmps170;go_wp2_with fail;refine (zoz _ _ c h0).mono ?_;rintro e w' ⟨⟨x,y,rfl⟩,rfl⟩;go_wp2;go_ret;exact ⟨zac E.o.symm,rfl⟩
 ·go_enter Tryz.func170,Tryz.ntmps170;go_wp2;go_ret;exact ⟨zac (by decide),rfl⟩
 ·have q0:(n == 0)=false:=by rw[beq_eq_false_iff_ne];omega
  have E:=zaa (show zet n=zhb (n % 4) (n / 4) by unfold zet;rw[decide_eq_true (by omega)];rfl)
  rcases (show (n % 4=1∧n / 4 < 24)∨(n % 4=1∧¬ n / 4 < 24)∨(n % 4=2∧n / 4 < 32)∨(n % 4=2∧¬ n / 4 < 32)∨(¬ n % 4=1∧¬ n % 4=2) by omega) with ⟨r,q⟩ | ⟨r,q⟩ | ⟨r,q⟩ | ⟨r,q⟩ | ⟨r,q⟩
  ·have A:=zaa (zrb (t:=n % 4) (a:=n / 4) (by omega))
   have r1:(n % 4 == 1)=true:=by rw[beq_iff_eq];exact r
   clear r;go_enter Tryz.func170,Tryz.ntmps170;go_wp2_with fail;refine (zcr _ _ (by omega) h1).mono ?_;rintro e w' ⟨rfl,rfl⟩;go_wp2;go_ret;exact ⟨zac (by rw[E.o,A.o];first | done | exact decide_eq_false (by omega)),rfl⟩
  ·have A:=zaa (zfj (t:=n % 4) (a:=n / 4) (by omega))
   have r1:(n % 4 == 1)=true:=by rw[beq_iff_eq];exact r
   have r2:(n % 4 == 2)=false:=by rw[beq_eq_false_iff_ne];omega
   clear r;go_enter Tryz.func170,Tryz.ntmps170;go_wp2_with fail;refine (zcr _ _ (by omega) h1).mono ?_;rintro e w' ⟨rfl,rfl⟩;go_wp2;go_ret;exact ⟨zac (by rw[E.o,A.o];first | done | exact decide_eq_false (by omega)),rfl⟩
  ·have A:=zaa (zrb (t:=n % 4) (a:=n / 4) (by omega))
   have r1:(n % 4 == 1)=false:=by rw[beq_eq_false_iff_ne];omega
   have r2:(n % 4 == 2)=true:=by rw[beq_iff_eq];exact r
   clear r;go_enter Tryz.func170,Tryz.ntmps170;go_wp2_with fail;refine (zcr _ _ (by omega) h1).mono ?_;rintro e w' ⟨rfl,rfl⟩;go_wp2;go_ret;exact ⟨zac (by rw[E.o,A.o];first | done | exact decide_eq_false (by omega)),rfl⟩
  ·have A:=zaa (zfj (t:=n % 4) (a:=n / 4) (by omega))
   have r1:(n % 4 == 1)=false:=by rw[beq_eq_false_iff_ne];omega
   have r2:(n % 4 == 2)=true:=by rw[beq_iff_eq];exact r
   clear r;go_enter Tryz.func170,Tryz.ntmps170;go_wp2_with fail;refine (zcr _ _ (by omega) h1).mono ?_;rintro e w' ⟨rfl,rfl⟩;go_wp2;go_ret;exact ⟨zac (by rw[E.o,A.o];first | done | exact decide_eq_false (by omega)),rfl⟩
  ·have A:=zaa (zfj (t:=n % 4) (a:=n / 4) (by omega))
   have r1:(n % 4 == 1)=false:=by rw[beq_eq_false_iff_ne];exact r
   have r2:(n % 4 == 2)=false:=by rw[beq_eq_false_iff_ne];exact q
   clear r q;go_enter Tryz.func170,Tryz.ntmps170;go_wp2_with fail;refine (zcr _ _ (by omega) h1).mono ?_;rintro e w' ⟨rfl,rfl⟩;go_wp2;go_ret;exact ⟨zac (by rw[E.o,A.o];first | done | exact decide_eq_false (by omega)),rfl⟩
end Go.Proofs.YtbohndgbfbfldaaGreatDoor
