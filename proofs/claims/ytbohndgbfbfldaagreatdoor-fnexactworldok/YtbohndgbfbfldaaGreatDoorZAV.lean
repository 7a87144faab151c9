/- Several texts laid together: DtE, DuG. -/
import Derived.Test.YtbohndgbfbfldaaGreatDoorZAF
set_option maxRecDepth 100000
set_option maxHeartbeats 8000000
namespace Go.Proofs.YtbohndgbfbfldaaGreatDoor
open Go.RowKit
def opB (k:Int) (p t:ByteArray) (g x:Int):Bool:=decide ((1≤k∧k≤10)∧p.size≤65536∧t.size≤65536∧(k=4∨k=5∨t.size=0)∧(k=6∨x=0)∧((6≤k∧k≤8)∨g=0))
theorem zmq (k:Int) (p t:ByteArray) (g x:Int) (w:World) :
  Calls Tryz.prog 33 #[.agg #[.int .i64 k,.string p,.string t,.int .i64 g,.int .i64 x]] w fun e w'=>e=.returned (.bool (opB k p t g x))∧Below w.heap.size w w':=by
 have BW:=zaa ((Below.refl w.heap.size w).alloc (Nat.le_refl _) (.cells #[.int .i64 k,.string p,.string t,.int .i64 g,.int .i64 x] 42));have ET:=zaa (zhu t);have NO:=zaa (fun h=>show opB k p t g x=false from decide_eq_false h);have YES:=zaa (fun h=>show opB k p t g x=true from decide_eq_true h)
 obtain ⟨W,hW⟩:∃ W,W=w.alloc (.cells #[.int .i64 k,.string p,.string t,.int .i64 g,.int .i64 x] 42):=⟨_,rfl⟩
 rw[← hW] at BW
 have CB:Hid (W.heap[w.heap.size]?=some (.cells #[.int .i64 k,.string p,.string t,.int .i64 g,.int .i64 x] 42 (0,0))):=by rw[hW];exact zah rfl
 have x0:W.cell? ⟨w.heap.size,0,none⟩=some (.int .i64 k):=by rw[hW];simp[go_sem]
 have x1:W.cell? ⟨w.heap.size,1,none⟩=some (.string p):=by rw[hW];simp[go_sem]
 have x2:W.cell? ⟨w.heap.size,2,none⟩=some (.string t):=by rw[hW];simp[go_sem]
 have x3:W.cell? ⟨w.heap.size,3,none⟩=some (.int .i64 g):=by rw[hW];simp[go_sem]
 have x4:W.cell? ⟨w.heap.size,4,none⟩=some (.int .i64 x):=by rw[hW];simp[go_sem]
 clear CB
 by_cases c1:1≤k∧k≤10
 case neg =>
  rw[NO.o (fun h=>c1 h.1)];go_enter Tryz.func33,Tryz.ntmps33;go_wp2_with fail;rw[← hW];clear hW;refine (zbg _ _ _ _ c1).mono ?_;rintro e w' ⟨rfl,hw'⟩;subst w';go_wp2;go_ret;exact ⟨rfl,BW.o⟩
 by_cases c2:(65536:Int) < (p.size:Int)
 case pos =>
  rw[NO.o (fun h=>by have:=h.2.1;omega)];go_enter Tryz.func33,Tryz.ntmps33;go_wp2_with fail;rw[← hW];clear hW;refine (zak _ _ _ _ c1).mono ?_;rintro e w' ⟨rfl,hw'⟩;subst w';go_wp2;go_ret;exact ⟨rfl,BW.o⟩
 by_cases c3:(65536:Int) < (t.size:Int)
 case pos =>
  rw[NO.o (fun h=>by have:=h.2.2.1;omega)];go_enter Tryz.func33,Tryz.ntmps33;go_wp2_with fail;rw[← hW];clear hW;refine (zak _ _ _ _ c1).mono ?_;rintro e w' ⟨rfl,hw'⟩;subst w';go_wp2;go_ret;exact ⟨rfl,BW.o⟩
 by_cases d4:k=4
 case pos =>
  subst d4
  by_cases c8:x=0
  case neg =>
   rw[NO.o (fun h=>by have:=h.2.2.2.2.1;omega)]
   have q8:(x != 0)=true:=by rw[bne_iff_ne];exact c8
   go_enter Tryz.func33,Tryz.ntmps33;go_wp2_with fail;rw[← hW];clear hW;refine (zak _ _ _ _ c1).mono ?_;rintro e w' ⟨rfl,hw'⟩;subst w';go_wp2;go_ret;exact ⟨rfl,BW.o⟩
  subst c8
  by_cases c9:g=0
  ·rw[YES.o ⟨by omega,by omega,by omega,by omega,by omega,by omega⟩];subst c9;go_enter Tryz.func33,Tryz.ntmps33;go_wp2_with fail;rw[← hW];clear hW;refine (zak _ _ _ _ c1).mono ?_;rintro e w' ⟨rfl,hw'⟩;subst w';go_wp2_with fail;refine (zbg _ _ _ _ (by omega)).mono ?_;rintro e w' ⟨rfl,hw'⟩;subst w';go_wp2;go_ret;exact ⟨rfl,BW.o⟩
  ·rw[NO.o (fun h=>by have:=h.2.2.2.2.2;omega)]
   have q9:(g == 0)=false:=by rw[beq_eq_false_iff_ne];exact c9
   go_enter Tryz.func33,Tryz.ntmps33;go_wp2_with fail;rw[← hW];clear hW;refine (zak _ _ _ _ c1).mono ?_;rintro e w' ⟨rfl,hw'⟩;subst w';go_wp2_with fail;refine (zbg _ _ _ _ (by omega)).mono ?_;rintro e w' ⟨rfl,hw'⟩;subst w';go_wp2;go_ret;exact ⟨rfl,BW.o⟩
 by_cases d5:k=5
 case pos =>
  subst d5
  by_cases c8:x=0
  case neg =>
   rw[NO.o (fun h=>by have:=h.2.2.2.2.1;omega)]
   have q8:(x != 0)=true:=by rw[bne_iff_ne];exact c8
   go_enter Tryz.func33,Tryz.ntmps33;go_wp2_with fail;rw[← hW];clear hW;refine (zak _ _ _ _ c1).mono ?_;rintro e w' ⟨rfl,hw'⟩;subst w';go_wp2;go_ret;exact ⟨rfl,BW.o⟩
  subst c8
  by_cases c9:g=0
  ·rw[YES.o ⟨by omega,by omega,by omega,by omega,by omega,by omega⟩];subst c9;go_enter Tryz.func33,Tryz.ntmps33;go_wp2_with fail;rw[← hW];clear hW;refine (zak _ _ _ _ c1).mono ?_;rintro e w' ⟨rfl,hw'⟩;subst w';go_wp2_with fail;refine (zbg _ _ _ _ (by omega)).mono ?_;rintro e w' ⟨rfl,hw'⟩;subst w';go_wp2;go_ret;exact ⟨rfl,BW.o⟩
  ·rw[NO.o (fun h=>by have:=h.2.2.2.2.2;omega)]
   have q9:(g == 0)=false:=by rw[beq_eq_false_iff_ne];exact c9
   go_enter Tryz.func33,Tryz.ntmps33;go_wp2_with fail;rw[← hW];clear hW;refine (zak _ _ _ _ c1).mono ?_;rintro e w' ⟨rfl,hw'⟩;subst w';go_wp2_with fail;refine (zbg _ _ _ _ (by omega)).mono ?_;rintro e w' ⟨rfl,hw'⟩;subst w';go_wp2;go_ret;exact ⟨rfl,BW.o⟩
 have q4:(k != 4)=true:=by rw[bne_iff_ne];exact d4
 have q5:(k != 5)=true:=by rw[bne_iff_ne];exact d5
 by_cases c6:t.toList=[]
 case neg =>
  rw[NO.o (fun h=>by rcases h.2.2.2.1 with a | a | a;exact d4 a;exact d5 a;exact c6 (ET.o.2 a))]
  have qe:t.toList.isEmpty=false:=by rw[List.isEmpty_eq_false_iff];exact c6
  go_enter Tryz.func33,Tryz.ntmps33;go_wp2_with fail;rw[← hW];clear hW;refine (zak _ _ _ _ c1).mono ?_;rintro e w' ⟨rfl,hw'⟩;subst w';go_wp2;go_ret;exact ⟨rfl,BW.o⟩
 have t0:=ET.o.1 c6
 by_cases d6:k=6
 case pos =>
  subst d6;rw[YES.o ⟨by omega,by omega,by omega,by omega,by omega,by omega⟩];go_enter Tryz.func33,Tryz.ntmps33;go_wp2_with fail;rw[← hW];clear hW;refine (zak _ _ _ _ c1).mono ?_;rintro e w' ⟨rfl,hw'⟩;subst w';go_wp2_with fail;refine (zak _ _ _ _ (by omega)).mono ?_;rintro e w' ⟨rfl,hw'⟩;subst w';go_wp2;go_ret;exact ⟨rfl,BW.o⟩
 have q6:(k != 6)=true:=by rw[bne_iff_ne];exact d6
 by_cases c8:x=0
 case neg =>
  rw[NO.o (fun h=>by have:=h.2.2.2.2.1;omega)]
  have q8:(x != 0)=true:=by rw[bne_iff_ne];exact c8
  go_enter Tryz.func33,Tryz.ntmps33;go_wp2_with fail;rw[← hW];clear hW;refine (zak _ _ _ _ c1).mono ?_;rintro e w' ⟨rfl,hw'⟩;subst w';go_wp2;go_ret;exact ⟨rfl,BW.o⟩
 subst c8
 by_cases d7:6≤k∧k≤8
 case pos =>
  rw[YES.o ⟨by omega,by omega,by omega,by omega,by omega,by omega⟩];go_enter Tryz.func33,Tryz.ntmps33;go_wp2_with fail;rw[← hW];clear hW;refine (zak _ _ _ _ c1).mono ?_;rintro e w' ⟨rfl,hw'⟩;subst w';go_wp2_with fail;refine (zak _ _ _ _ (by omega)).mono ?_;rintro e w' ⟨rfl,hw'⟩;subst w';go_wp2;go_ret;exact ⟨rfl,BW.o⟩
 by_cases c9:g=0
 ·rw[YES.o ⟨by omega,by omega,by omega,by omega,by omega,by omega⟩];subst c9;go_enter Tryz.func33,Tryz.ntmps33;go_wp2_with fail;rw[← hW];clear hW;refine (zak _ _ _ _ c1).mono ?_;rintro e w' ⟨rfl,hw'⟩;subst w';go_wp2_with fail;refine (zbg _ _ _ _ (by omega)).mono ?_;rintro e w' ⟨rfl,hw'⟩;subst w';go_wp2;go_ret;exact ⟨rfl,BW.o⟩
 ·rw[NO.o (fun h=>by have:=h.2.2.2.2.2;omega)]
  have q9:(g == 0)=false:=by rw[beq_eq_false_iff_ne];exact c9
  go_enter Tryz.func33,Tryz.ntmps33;go_wp2_with fail;rw[← hW];clear hW;refine (zak _ _ _ _ c1).mono ?_;rintro e w' ⟨rfl,hw'⟩;subst w';go_wp2_with fail;refine (zbg _ _ _ _ (by omega)).mono ?_;rintro e w' ⟨rfl,hw'⟩;subst w';go_wp2;go_ret;exact ⟨rfl,BW.o⟩
def zlo (k:Int) (p t:ByteArray) (g x:Int) (k':Int) (p' t':ByteArray) (g' x':Int):Bool:=k == k' && (p.toList == p'.toList && (t.toList == t'.toList && (g == g' && x == x')))
@[go_sem ↓] theorem eqOp (k:Int) (p t:ByteArray) (g x:Int) (k':Int) (p' t':ByteArray) (g' x':Int) (w:World):(Op.equalIn 10000 42 (.agg #[.int .i64 k,.string p,.string t,.int .i64 g,.int .i64 x]) (.agg #[.int .i64 k',.string p',.string t',.int .i64 g',.int .i64 x'])).run Tryz.prog w=.ok (zlo k p t g x k' p' t' g' x') w:=by
 unfold zlo
 cases g0:(k == k')
 ·go_simp
 cases g1:(p.toList == p'.toList)
 ·go_simp
 cases g2:(t.toList == t'.toList)
 ·go_simp
 cases g3:(g == g')
 ·go_simp
 cases g4:(x == x')
 ·go_simp
 ·go_simp
theorem zxt:(⟨#[]⟩:ByteArray).toList=[]:=(zhu _).2 rfl
theorem zcw (t:ByteArray) (g x:Int):zlo 0 ⟨#[]⟩ t g x 0 ⟨#[]⟩ ⟨#[]⟩ 0 0=decide (t.size=0∧g=0∧x=0):=by
 unfold zlo;rw[Bool.eq_iff_iff];simp only[Bool.and_eq_true,beq_iff_eq,decide_eq_true_eq,zxt,true_and];rw[zhu t]
theorem yaeg {k:Int} {p t:ByteArray} {g x:Int} (hp:¬ 65536 < p.size) (ht:¬ 65536 < t.size) (hk:1≤k∧k≤10) {P:Prop} [Decidable P] (h:P↔((k=4∨k=5∨t.size=0)∧(k=6∨x=0)∧((6≤k∧k≤8)∨g=0))):opB k p t g x=decide P:=by
 unfold opB;rw[decide_eq_decide,h];exact ⟨fun q=>q.2.2.2,fun q=>⟨hk,by omega,by omega,q⟩⟩
theorem zre {k:Int} {p t:ByteArray} {g x:Int} (h:¬ ((1≤k∧k≤10)∧p.size≤65536∧t.size≤65536)):opB k p t g x=false:=decide_eq_false (fun q=>h ⟨q.1,q.2.1,q.2.2.1⟩)
theorem znl (k:Int) (p t:ByteArray) (g x:Int) (w:World) :
  Calls Tryz.prog 96 #[.agg #[.int .i64 k,.string p,.string t,.int .i64 g,.int .i64 x]] w fun e w'=>e=.returned (.bool (opB k p t g x))∧Below w.heap.size w w':=by
 by_cases c1:65536 < p.size
 ·rw[zre (fun h=>by omega)]
  have q:(p.size:Int) > 65536:=by omega
  clear c1;go_enter Tryz.func96,Tryz.ntmps96;go_wp2;go_ret;exact ⟨rfl,(Below.refl _ _).alloc (Nat.le_refl _) _⟩
 have q1:¬ (p.size:Int) > 65536:=by omega
 by_cases c2:65536 < t.size
 ·rw[zre (fun h=>by omega)]
  have q:(t.size:Int) > 65536:=by omega
  clear c1 c2;go_enter Tryz.func96,Tryz.ntmps96;go_wp2;go_ret;exact ⟨rfl,(Below.refl _ _).alloc (Nat.le_refl _) _⟩
 have q2:¬ (t.size:Int) > 65536:=by omega
 by_cases hk:1≤k∧k≤10
 case neg =>
  rw[zre (fun h=>hk h.1)]
  have k1:(k == 1)=false:=by rw[beq_eq_false_iff_ne];omega
  have k2:(k == 2)=false:=by rw[beq_eq_false_iff_ne];omega
  have k3:(k == 3)=false:=by rw[beq_eq_false_iff_ne];omega
  have k4:(k == 4)=false:=by rw[beq_eq_false_iff_ne];omega
  have k5:(k == 5)=false:=by rw[beq_eq_false_iff_ne];omega
  have k6:(k == 6)=false:=by rw[beq_eq_false_iff_ne];omega
  have k7:(k == 7)=false:=by rw[beq_eq_false_iff_ne];omega
  have k8:(k == 8)=false:=by rw[beq_eq_false_iff_ne];omega
  have k9:(k == 9)=false:=by rw[beq_eq_false_iff_ne];omega
  have k10:(k == 10)=false:=by rw[beq_eq_false_iff_ne];omega
  clear c1 c2 hk;go_enter Tryz.func96,Tryz.ntmps96;go_wp2;go_ret;exact ⟨rfl,by repeat (first | exact Below.refl _ _ | refine Below.setCell ?_ (by simp only;omega) _ | refine Below.alloc ?_ (by simp) _)⟩
 have OI:=zaa (fun (P:Prop) (_:Decidable P) h=>yaeg (k:=k) (p:=p) (t:=t) (g:=g) (x:=x) c1 c2 hk (P:=P) h);clear c1 c2
 rcases (show k=1∨k=2∨k=3∨k=4∨k=5∨k=6∨k=7∨k=8∨k=9∨k=10 by omega) with rfl | rfl | rfl | rfl | rfl | rfl | rfl | rfl | rfl | rfl
 ·have E:Hid (opB 1 p t g x=zlo 0 ⟨#[]⟩ t g x 0 ⟨#[]⟩ ⟨#[]⟩ 0 0):=by
   unfold Hid;rw[zcw];exact OI.o _ _ ⟨fun q=>⟨by omega,by omega,by omega⟩,fun q=>⟨by first | rfl | omega,by omega,by omega⟩⟩
  rw[E.o];clear E OI hk;go_enter Tryz.func96,Tryz.ntmps96;go_wp2;go_ret;exact ⟨rfl,by repeat (first | exact Below.refl _ _ | refine Below.setCell ?_ (by simp only;omega) _ | refine Below.alloc ?_ (by simp) _)⟩
 ·have E:Hid (opB 2 p t g x=zlo 0 ⟨#[]⟩ t g x 0 ⟨#[]⟩ ⟨#[]⟩ 0 0):=by
   unfold Hid;rw[zcw];exact OI.o _ _ ⟨fun q=>⟨by omega,by omega,by omega⟩,fun q=>⟨by first | rfl | omega,by omega,by omega⟩⟩
  rw[E.o];clear E OI hk;go_enter Tryz.func96,Tryz.ntmps96;go_wp2;go_ret;exact ⟨rfl,by repeat (first | exact Below.refl _ _ | refine Below.setCell ?_ (by simp only;omega) _ | refine Below.alloc ?_ (by simp) _)⟩
 ·have E:Hid (opB 3 p t g x=zlo 0 ⟨#[]⟩ t g x 0 ⟨#[]⟩ ⟨#[]⟩ 0 0):=by
   unfold Hid;rw[zcw];exact OI.o _ _ ⟨fun q=>⟨by omega,by omega,by omega⟩,fun q=>⟨by first | rfl | omega,by omega,by omega⟩⟩
  rw[E.o];clear E OI hk;go_enter Tryz.func96,Tryz.ntmps96;go_wp2;go_ret;exact ⟨rfl,by repeat (first | exact Below.refl _ _ | refine Below.setCell ?_ (by simp only;omega) _ | refine Below.alloc ?_ (by simp) _)⟩
 ·have E:Hid (opB 4 p t g x=zlo 0 ⟨#[]⟩ ⟨#[]⟩ g x 0 ⟨#[]⟩ ⟨#[]⟩ 0 0):=by
   unfold Hid;rw[zcw];exact OI.o _ _ ⟨fun q=>⟨by omega,by omega,by omega⟩,fun q=>⟨by first | rfl | omega,by omega,by omega⟩⟩
  rw[E.o];clear E OI hk;go_enter Tryz.func96,Tryz.ntmps96;go_wp2;go_ret;exact ⟨rfl,by repeat (first | exact Below.refl _ _ | refine Below.setCell ?_ (by simp only;omega) _ | refine Below.alloc ?_ (by simp) _)⟩
 ·have E:Hid (opB 5 p t g x=zlo 0 ⟨#[]⟩ ⟨#[]⟩ g x 0 ⟨#[]⟩ ⟨#[]⟩ 0 0):=by
   unfold Hid;rw[zcw];exact OI.o _ _ ⟨fun q=>⟨by omega,by omega,by omega⟩,fun q=>⟨by first | rfl | omega,by omega,by omega⟩⟩
  rw[E.o];clear E OI hk;go_enter Tryz.func96,Tryz.ntmps96;go_wp2;go_ret;exact ⟨rfl,by repeat (first | exact Below.refl _ _ | refine Below.setCell ?_ (by simp only;omega) _ | refine Below.alloc ?_ (by simp) _)⟩
 ·have E:Hid (opB 6 p t g x=zlo 0 ⟨#[]⟩ t 0 0 0 ⟨#[]⟩ ⟨#[]⟩ 0 0):=by
   unfold Hid;rw[zcw];exact OI.o _ _ ⟨fun q=>⟨by omega,by omega,by omega⟩,fun q=>⟨by first | rfl | omega,by omega,by omega⟩⟩
  rw[E.o];clear E OI hk;go_enter Tryz.func96,Tryz.ntmps96;go_wp2;go_ret;exact ⟨rfl,by repeat (first | exact Below.refl _ _ | refine Below.setCell ?_ (by simp only;omega) _ | refine Below.alloc ?_ (by simp) _)⟩
 ·have E:Hid (opB 7 p t g x=zlo 0 ⟨#[]⟩ t 0 x 0 ⟨#[]⟩ ⟨#[]⟩ 0 0):=by
   unfold Hid;rw[zcw];exact OI.o _ _ ⟨fun q=>⟨by omega,by omega,by omega⟩,fun q=>⟨by first | rfl | omega,by omega,by omega⟩⟩
  rw[E.o];clear E OI hk;go_enter Tryz.func96,Tryz.ntmps96;go_wp2;go_ret;exact ⟨rfl,by repeat (first | exact Below.refl _ _ | refine Below.setCell ?_ (by simp only;omega) _ | refine Below.alloc ?_ (by simp) _)⟩
 ·have E:Hid (opB 8 p t g x=zlo 0 ⟨#[]⟩ t 0 x 0 ⟨#[]⟩ ⟨#[]⟩ 0 0):=by
   unfold Hid;rw[zcw];exact OI.o _ _ ⟨fun q=>⟨by omega,by omega,by omega⟩,fun q=>⟨by first | rfl | omega,by omega,by omega⟩⟩
  rw[E.o];clear E OI hk;go_enter Tryz.func96,Tryz.ntmps96;go_wp2;go_ret;exact ⟨rfl,by repeat (first | exact Below.refl _ _ | refine Below.setCell ?_ (by simp only;omega) _ | refine Below.alloc ?_ (by simp) _)⟩
 ·have E:Hid (opB 9 p t g x=zlo 0 ⟨#[]⟩ t g x 0 ⟨#[]⟩ ⟨#[]⟩ 0 0):=by
   unfold Hid;rw[zcw];exact OI.o _ _ ⟨fun q=>⟨by omega,by omega,by omega⟩,fun q=>⟨by first | rfl | omega,by omega,by omega⟩⟩
  rw[E.o];clear E OI hk;go_enter Tryz.func96,Tryz.ntmps96;go_wp2;go_ret;exact ⟨rfl,by repeat (first | exact Below.refl _ _ | refine Below.setCell ?_ (by simp only;omega) _ | refine Below.alloc ?_ (by simp) _)⟩
 ·have E:Hid (opB 10 p t g x=zlo 0 ⟨#[]⟩ t g x 0 ⟨#[]⟩ ⟨#[]⟩ 0 0):=by
   unfold Hid;rw[zcw];exact OI.o _ _ ⟨fun q=>⟨by omega,by omega,by omega⟩,fun q=>⟨by first | rfl | omega,by omega,by omega⟩⟩
  rw[E.o];clear E OI hk;go_enter Tryz.func96,Tryz.ntmps96;go_wp2;go_ret;exact ⟨rfl,by repeat (first | exact Below.refl _ _ | refine Below.setCell ?_ (by simp only;omega) _ | refine Below.alloc ?_ (by simp) _)⟩
end Go.Proofs.YtbohndgbfbfldaaGreatDoor
