/- Several texts laid together: Nm, ImD, ImH, StoreS, ImE, ImF, ImJ. -/
import Derived.Test.YtehnphoeplmpdaaGreatDoorZAA
import Derived.Test.YtehnphoeplmpdaaGreatDoorZAC
import Derived.Laws.IdiomStrings
import Derived.Laws.BytesArg
import Derived.Deep.OwnRows
import Derived.Deep.RegionWith
set_option maxRecDepth 100000
set_option maxHeartbeats 4000000
namespace Go.Proofs.YtehnphoeplmpdaaGreatDoor
open Go.RowKit
theorem yaaj {a b:ByteArray} {c d:Int} (h:a=b) (k:c=d):Ending.returned (.tuple #[.string a,.int .i64 c])=.returned (.tuple #[.string b,.int .i64 d]):=by rw[h,k]
theorem yanx {a b:ByteArray} {c d:Bool} (h:a=b) (k:c=d):Ending.returned (.tuple #[.string a,.bool c])=.returned (.tuple #[.string b,.bool d]):=by rw[h,k]
theorem yadm (n:Int) (w:World) (h:1≤n∧n≤6):Calls Tryz.prog 78 #[.int .i64 n,.int .i64 1,.int .i64 6] w fun e w'=>e=.returned (.bool true)∧w'=w:=by
 obtain ⟨h1,h2⟩:=h;go_enter Tryz.func78,Tryz.ntmps78;go_wp2;go_ret;exact ⟨rfl,rfl⟩
theorem yahk (n:Int) (w:World) (h:¬ (1≤n∧n≤6)):Calls Tryz.prog 78 #[.int .i64 n,.int .i64 1,.int .i64 6] w fun e w'=>e=.returned (.bool false)∧w'=w:=by
 rcases (show ¬ 1≤n∨(1≤n∧¬ n≤6) by omega) with h1 | ⟨h1,h2⟩
 all_goals
  clear h;go_enter Tryz.func78,Tryz.ntmps78;go_wp2;go_ret;exact ⟨rfl,rfl⟩
theorem zds (s:ByteArray) (w:World) (hs:s.size≤maxLen):Calls Tryz.prog 223 #[.string s] w fun e w'=>e=.returned (.bool (nmB s))∧w'=w:=by
 unfold maxLen at hs
 by_cases c:1≤s.size∧s.size≤6
 ·have c':1≤(s.size:Int)∧(s.size:Int)≤6:=by omega
  have C:=zaa c';obtain ⟨c1,c2⟩:=c;clear c';go_enter Tryz.func223,Tryz.ntmps223;go_wp2_with (go_at_call 78;refine (yadm _ _ C.o).mono ?_;rintro e w' ⟨rfl,rfl⟩)
  go_loop [3] (fun i=>∃ k:Nat,k≤s.size∧i=.int .i64 k∧Hid (∀ j (h:j < s.size),j < k→97≤s[j].toNat∧s[j].toNat≤122)) (fun i=>s.size - (intOf i).toNat)
  case atStart=>exact ⟨0,by omega,rfl,fun j h b=>absurd b (by omega)⟩
  case round =>
   obtain ⟨k,hk,rfl,H⟩:=hrel
   by_cases hlt:k < s.size
   ·rcases (show ((s[k].toNat:Int) < 97)∨(¬ ((s[k].toNat:Int) < 97)∧(122:Int) < (s[k].toNat:Int))∨(¬ ((s[k].toNat:Int) < 97)∧¬ (122:Int) < (s[k].toNat:Int)) by omega) with d | ⟨d,d'⟩ | ⟨d,d'⟩
    ·have E:=zaa (zpm hlt (by omega));go_wp2;go_ret;exact ⟨zaf E.o.symm,rfl⟩
    ·have E:=zaa (zpm hlt (by omega));go_wp2;go_ret;exact ⟨zaf E.o.symm,rfl⟩
    ·go_wp2
     go_round
     case rel =>
      refine ⟨k+1,by omega,by go_num,fun j h b=>?_⟩
      by_cases e:j=k
      ·subst e;omega
      ·exact H.o j h (by omega)
     case measure=>simp[intOf];omega
   ·have E:=zaa (zys c1 c2 (fun j h=>H.o j h (by omega)));go_wp2;go_ret;exact ⟨zaf E.o.symm,rfl⟩
 ·have c':¬ (1≤(s.size:Int)∧(s.size:Int)≤6):=by omega
  have C:=zaa c';have E:=zaa (show nmB s=false from decide_eq_false (fun x=>c ⟨x.1,x.2.1⟩));clear c c';go_enter Tryz.func223,Tryz.ntmps223;go_wp2_with (go_at_call 78;refine (yahk _ _ C.o).mono ?_;rintro e w' ⟨rfl,rfl⟩);go_ret;exact ⟨zaf E.o.symm,rfl⟩
theorem yaeq {s:ByteArray} (h:65536 < s.size):zqk s=0∧zqm s=2:=by
 unfold zqk zqm;rw[if_neg (by rw[zsc (by omega)];simp),if_pos h];exact ⟨rfl,rfl⟩
theorem znn {s:ByteArray} (h:¬ 65536 < s.size) (h2:nmB s=false):zqk s=0∧zqm s=12:=by
 unfold zqk zqm;rw[h2,if_neg h];exact ⟨rfl,rfl⟩
theorem yabu {s:ByteArray} (h:nmB s=true):zqk s=((pk s s.size:Nat):Int)∧zqm s=0:=by
 unfold zqk zqm;have:=(zdc h).2.1;rw[if_pos h,if_neg (by omega),if_pos h];exact ⟨rfl,rfl⟩
theorem zha (s:ByteArray) (w:World) (hs:s.size≤maxLen):Calls Tryz.prog 277 #[.string s] w fun e w'=>e=.returned (.tuple #[.int .i64 (zqk s),.int .i64 (zqm s)])∧Below w.heap.size w w':=by
 unfold maxLen at hs
 by_cases c0:65536 < s.size
 ·have E:=zaa (yaeq c0);go_enter Tryz.func277,Tryz.ntmps277;go_wp2;go_ret2;exact ⟨zbt E.o.1.symm E.o.2.symm,Below.refl _ _⟩
 by_cases c1:s.size < 1
 ·have E:=zaa (znn c0 (zuj c1));go_enter Tryz.func277,Tryz.ntmps277;go_wp2;go_ret2;exact ⟨zbt E.o.1.symm E.o.2.symm,Below.refl _ _⟩
 by_cases c2:6 < s.size
 ·have E:=zaa (znn c0 (zsc c2));go_enter Tryz.func277,Tryz.ntmps277;go_wp2;go_ret2;exact ⟨zbt E.o.1.symm E.o.2.symm,Below.refl _ _⟩
 have hconv:=run_bytes_of_string (P:=Tryz.prog) w 9 228 5 s Tryz.underlying9 Tryz.underlying228 Tryz.underlying5;generalize hcap:grownCap w s.size 0 5=cap at hconv
 have CELL:Hid (∀ k (h:k < s.size),(w.drew.alloc (.cells (bytesRow s cap) 5 ((bytesRow s cap).size,(bytesRow s cap).size+1))).cell? ⟨w.heap.size,k,none⟩=some (.int .u8 (s[k].toNat:Int))):=fun k h=>by
  have e:=World.cell?_alloc_mark w.drew (bytesRow s cap) 5 ((bytesRow s cap).size,(bytesRow s cap).size+1) k;rw[bytesRow_at s cap k h] at e;exact e
 have BB:Hid (Below w.heap.size w (w.drew.alloc (.cells (bytesRow s cap) 5 ((bytesRow s cap).size,(bytesRow s cap).size+1)))):=((Below.refl _ _).drew).alloc (Nat.le_refl _) _;clear hcap;generalize w.drew.alloc (.cells (bytesRow s cap) 5 ((bytesRow s cap).size,(bytesRow s cap).size+1))=w1 at hconv CELL BB;go_enter Tryz.func277,Tryz.ntmps277;go_wp2
 go_loop [4,6,21] (fun n _ i=>∃ k:Nat,k≤s.size∧i=.int .i64 k∧n=.int .i64 ((pk s k:Nat):Int)∧Hid (∀ j (h:j < s.size),j < k→97≤s[j].toNat∧s[j].toNat≤122)) (fun _ _ i=>s.size - (intOf i).toNat)
 case atStart=>exact ⟨0,by omega,rfl,by rw[zyy];rfl,fun j h b=>absurd b (by omega)⟩
 case round =>
  obtain ⟨k,hk,rfl,rfl,H⟩:=hrel
  by_cases hlt:k < s.size
  ·have x0:=CELL.o k hlt;have bd:pk s k < 387420489:=yaoz H.o (by omega);have SU:=zaa (yagd s k hlt);have b255:s[k].toNat < 256:=s[k].toNat_lt;have NO:=zaa (zpm (s:=s) hlt)
   have NX:Hid (97≤s[k].toNat∧s[k].toNat≤122→∀ j (h:j < s.size),j < k+1→97≤s[j].toNat∧s[j].toNat≤122):=fun hx j h b=>by
    by_cases e:j=k
    ·subst e;exact hx
    ·exact H.o j h (by omega)
   generalize s[k].toNat=x at x0 SU b255 NO NX
   rcases (show ((x:Int) < 97)∨(¬ ((x:Int) < 97)∧(122:Int) < (x:Int))∨(¬ ((x:Int) < 97)∧¬ (122:Int) < (x:Int)) by omega) with d | ⟨d,d'⟩ | ⟨d,d'⟩
   ·have E:=zaa (znn c0 (NO.o (by omega)));go_wp2;go_ret2;exact ⟨zbt E.o.1.symm E.o.2.symm,BB.o⟩
   ·have E:=zaa (znn c0 (NO.o (by omega)));go_wp2;go_ret2;exact ⟨zbt E.o.1.symm E.o.2.symm,BB.o⟩
   ·go_wp2
    go_round
    case rel=>exact ⟨k+1,by omega,by go_num,by rw[SU.o];congr 1;omega,NX.o (by omega)⟩
    case measure=>simp[intOf];omega
  ·have ek:k=s.size:=by omega
   subst ek;have E:=zaa (yabu (zys (s:=s) (by omega) (by omega) (fun j h=>H.o j h h)));go_wp2;go_ret2;exact ⟨zbt E.o.1.symm E.o.2.symm,BB.o⟩
theorem zye (s:ByteArray) (w:World) (hs:nmB s=true):Calls Tryz.prog 273 #[.string s] w fun e w'=>e=.returned (.int .i64 ((pk s s.size:Nat):Int))∧w'=w:=by
 have N:=zaa (zdc hs);have h6:s.size≤6:=(zdc hs).2.1;clear hs;go_enter Tryz.func273,Tryz.ntmps273;go_wp2
 go_loop [3,4] (fun n i=>∃ k:Nat,k≤s.size∧i=.int .i64 k∧n=.int .i64 ((pk s k:Nat):Int)) (fun _ i=>s.size - (intOf i).toNat)
 case atStart=>exact ⟨0,by omega,rfl,by rw[zyy];rfl⟩
 case round =>
  obtain ⟨k,hk,rfl,rfl⟩:=hrel
  by_cases hlt:k < s.size
  ·have bd:pk s k < 387420489:=yaoz (fun j h _=>N.o.2.2 j h) (by omega);have SU:=zaa (yagd s k hlt);have b1:=N.o.2.2 k hlt;go_wp2
   go_round
   case rel=>exact ⟨k+1,by omega,by go_num,by rw[SU.o];congr 1;omega⟩
   case measure=>simp[intOf];omega
  ·have ek:k=s.size:=by omega
   subst ek;go_wp2;go_ret;exact ⟨rfl,rfl⟩
def iuC (i:Int) (x:Ino):Int:=if 0≤i∧i≤15 then (if zes x=true then 0 else 1) else 4
def iuL (i:Int) (x:Ino):List Se:=if 0≤i∧i≤15 then (if zes x=true then wrL i x 8 else []) else []
theorem yalw (i:Int) (x:Ino):(¬ (0≤i∧i≤15)∧iuC i x=4∧iuL i x=[])∨((0≤i∧i≤15)∧zes x=false∧iuC i x=1∧iuL i x=[])∨((0≤i∧i≤15)∧zes x=true∧iuC i x=0∧iuL i x=wrL i x 8):=by
 unfold iuC iuL
 by_cases h:0≤i∧i≤15
 ·cases q:zes x
  ·exact .inr (.inl ⟨h,rfl,by rw[if_pos h,if_neg (by decide)],by rw[if_pos h,if_neg (by decide)]⟩)
  ·exact .inr (.inr ⟨h,rfl,by rw[if_pos h,if_pos rfl],by rw[if_pos h,if_pos rfl]⟩)
 ·exact .inl ⟨h,by rw[if_neg h],by rw[if_neg h]⟩
theorem zko (w:World) (t:TypeId) (size:Nat):Row (w.alloc (.cells #[] t)) t size w.heap.size (w.alloc (.cells #[] t)).heap.size (.slice (some ⟨w.heap.size,0,none⟩) 0 0) 0 [] :=
 zad (World.ownsRow_lit w #[] 0 (Nat.le_refl _) (by simp[maxLen]) (by simp))
theorem Ino.all {x:Ino} {w':World} {b:Nat} (h:∀ j,w'.cell? ⟨b,j,none⟩=x.cs[j]?):w'.cell? ⟨b,0,none⟩=some (.int .i64 x.kind)∧w'.cell? ⟨b,1,none⟩=some (.int .i64 x.size)∧w'.cell? ⟨b,2,none⟩=some (.int .i64 x.links)∧w'.cell? ⟨b,3,none⟩=some (.int .i64 x.m0)∧w'.cell? ⟨b,4,none⟩=some (.int .i64 x.m1)∧w'.cell? ⟨b,5,none⟩=some (.int .i64 x.m2)∧w'.cell? ⟨b,6,none⟩=some (.int .i64 x.m3)∧w'.cell? ⟨b,7,none⟩=some (.int .i64 x.m4)∧w'.cell? ⟨b,8,none⟩=some (.int .i64 x.m5)∧w'.cell? ⟨b,9,none⟩=some (.int .i64 x.m6)∧w'.cell? ⟨b,10,none⟩=some (.int .i64 x.m7):=⟨h 0,h 1,h 2,h 3,h 4,h 5,h 6,h 7,h 8,h 9,h 10⟩
def inos (ps:List Ino):List Value:=ps.flatMap Ino.cs
theorem Ino.cs_len (x:Ino):x.cs.length=11:=rfl
theorem zev (ps:List Ino) (k i:Nat) (h:k < ps.length) (hi:i < 11):(inos ps)[k*11+i]?=ps[k].cs[i]?:=(zbr _ 11 Ino.cs_len ps k i h hi).trans (by rw[List.getElem?_eq_getElem (show i < ps[k].cs.length by rw[Ino.cs_len];exact hi)])
def RdN (w:World) (v:Value) (ps:List Ino):Prop:=Rd w 11 v ps.length (inos ps)
theorem RdN.shape {w:World} {v:Value} {ps:List Ino} (h:RdN w v ps):∃ ao cap,v=.slice ao ps.length cap∧ps.length≤cap∧(0 < ps.length→∃ b o,ao=some ⟨b,o,none⟩∧b < w.heap.size ∧
  ∀ k (h:k < ps.length),w.cell? ⟨b,o+k*11,none⟩=some (.int .i64 ps[k].kind)∧w.cell? ⟨b,o+k*11+1,none⟩=some (.int .i64 ps[k].size)∧w.cell? ⟨b,o+k*11+2,none⟩=some (.int .i64 ps[k].links)∧w.cell? ⟨b,o+k*11+3,none⟩=some (.int .i64 ps[k].m0)∧w.cell? ⟨b,o+k*11+4,none⟩=some (.int .i64 ps[k].m1)∧w.cell? ⟨b,o+k*11+5,none⟩=some (.int .i64 ps[k].m2)∧w.cell? ⟨b,o+k*11+6,none⟩=some (.int .i64 ps[k].m3)∧w.cell? ⟨b,o+k*11+7,none⟩=some (.int .i64 ps[k].m4)∧w.cell? ⟨b,o+k*11+8,none⟩=some (.int .i64 ps[k].m5)∧w.cell? ⟨b,o+k*11+9,none⟩=some (.int .i64 ps[k].m6)∧w.cell? ⟨b,o+k*11+10,none⟩=some (.int .i64 ps[k].m7)):=by
 obtain ⟨_,ao,cap,rfl,h2,h3⟩:=h;refine ⟨ao,cap,rfl,h2.1,fun hn=>?_⟩;obtain ⟨b,o,rfl,hb,hc⟩:=h3 hn;exact ⟨b,o,rfl,hb,fun k hk=>⟨(hc (k*11) (by omega)).trans (zev ps k 0 hk (by omega)),(hc (k*11+1) (by omega)).trans (zev ps k 1 hk (by omega)),(hc (k*11+2) (by omega)).trans (zev ps k 2 hk (by omega)),(hc (k*11+3) (by omega)).trans (zev ps k 3 hk (by omega)),(hc (k*11+4) (by omega)).trans (zev ps k 4 hk (by omega)),(hc (k*11+5) (by omega)).trans (zev ps k 5 hk (by omega)),(hc (k*11+6) (by omega)).trans (zev ps k 6 hk (by omega)),(hc (k*11+7) (by omega)).trans (zev ps k 7 hk (by omega)),(hc (k*11+8) (by omega)).trans (zev ps k 8 hk (by omega)),(hc (k*11+9) (by omega)).trans (zev ps k 9 hk (by omega)),(hc (k*11+10) (by omega)).trans (zev ps k 10 hk (by omega))⟩⟩
theorem yaid:(Tryz.prog.info? 133).map (fun i=>(i.zero,i.size,i.bytes))=some (some (.agg #[.int .i64 0,.int .i64 0,.int .i64 0,.int .i64 0,.int .i64 0,.int .i64 0,.int .i64 0,.int .i64 0,.int .i64 0,.int .i64 0,.int .i64 0]),11,88):=by kernel_rfl
structure St where
 at_:Int
 val:Int
 fl:Bool
deriving DecidableEq
def St.cells (s:St):List Value:=[.int .i64 s.at_,.int .i64 s.val,.bool s.fl]
def sts (ps:List St):List Value:=ps.flatMap St.cells
theorem St.cells_len (s:St):s.cells.length=3:=rfl
theorem yaho (ps:List St):(sts ps).length=ps.length*3:=zgn _ 3 St.cells_len ps
theorem ztk (ps:List St) (k:Nat) (h:k < ps.length):(sts ps)[k*3]?=some (.int .i64 ps[k].at_):=zbr _ 3 St.cells_len ps k 0 h (by omega)
theorem zua (ps:List St) (k:Nat) (h:k < ps.length):(sts ps)[k*3+1]?=some (.int .i64 ps[k].val):=zbr _ 3 St.cells_len ps k 1 h (by omega)
theorem zth (ps:List St) (k:Nat) (h:k < ps.length):(sts ps)[k*3+2]?=some (.bool ps[k].fl):=zbr _ 3 St.cells_len ps k 2 h (by omega)
def RdS (w:World) (v:Value) (ps:List St):Prop:=Rd w 3 v ps.length (sts ps)
theorem RdS.shape {w:World} {v:Value} {ps:List St} (h:RdS w v ps):∃ ao cap,v=.slice ao ps.length cap∧ps.length≤cap∧(0 < ps.length→∃ b o,ao=some ⟨b,o,none⟩∧b < w.heap.size ∧
  ∀ k (h:k < ps.length),w.cell? ⟨b,o+k*3,none⟩=some (.int .i64 ps[k].at_)∧w.cell? ⟨b,o+k*3+1,none⟩=some (.int .i64 ps[k].val)∧w.cell? ⟨b,o+k*3+2,none⟩=some (.bool ps[k].fl)):=by
 obtain ⟨_,ao,cap,rfl,h2,h3⟩:=h;refine ⟨ao,cap,rfl,h2.1,fun hn=>?_⟩;obtain ⟨b,o,rfl,hb,hc⟩:=h3 hn;exact ⟨b,o,rfl,hb,fun k hk=>⟨(hc (k*3) (by omega)).trans (ztk ps k hk),(hc (k*3+1) (by omega)).trans (zua ps k hk),(hc (k*3+2) (by omega)).trans (zth ps k hk)⟩⟩
theorem yasg:(Tryz.prog.info? 190).map (fun i=>(i.zero,i.size,i.bytes))=some (some (.agg #[.int .i64 0,.int .i64 0,.bool false]),3,24):=by kernel_rfl
theorem zym (a v:Int) (f:Bool) (w:World):Calls Tryz.prog 153 #[.agg #[.int .i64 a,.int .i64 v,.bool f]] w fun e w'=>e=.returned (.agg #[.int .i64 a,.int .i64 v,.bool f])∧Below w.heap.size w w':=by
 go_enter Tryz.func153,Tryz.ntmps153;go_wp2;refine bodyPost_ret (v:=.agg #[.int .i64 a,.int .i64 v,.bool f]) (by simp[results,Tryz.results153,go_sem]) rfl ⟨rfl,?_⟩
 repeat (refine Below.alloc ?_ (by simp <;> omega) _)
 exact Below.refl _ _
def put3 (ys:List Value) (k:Nat) (a b c:Value):List Value:=((ys.set (k*3) a).set (k*3+1) b).set (k*3+2) c
theorem zhi {ys:List Value} {k:Nat} {a b c:Value} {j:Nat} (hj:j < ys.length):(put3 ys k a b c)[j]?=if j=k*3+2 then some c else if j=k*3+1 then some b else if j=k*3 then some a else ys[j]?:=by
 unfold put3;rw[zpg (by simpa using hj),zpg (by simpa using hj),zpg hj]
theorem zuu {ys:List Value} {ps:List St} {k:Nat} (hk:k < ps.length) (hl:ys.length=ps.length*3) (h:∀ j,j < k*3→ys[j]?=(sts ps)[j]?) :
  ∀ j,j < (k+1)*3→(put3 ys k (.int .i64 ps[k].at_) (.int .i64 ps[k].val) (.bool ps[k].fl))[j]?=(sts ps)[j]?:=by
 intro j hj;rw[zhi (by omega)]
 split
 ·rename_i e;rw[e,zth ps k hk]
 ·split
  ·rename_i e;rw[e,zua ps k hk]
  ·split
   ·rename_i e;rw[e,ztk ps k hk]
   ·exact h j (by omega)
theorem yajg {ys:List Value} {ps:List St} (hl:ys.length=ps.length*3) (h:∀ j,j < ps.length*3→ys[j]?=(sts ps)[j]?):ys=sts ps:=by
 apply List.ext_getElem?;intro j
 by_cases hj:j < ps.length*3
 ·exact h j hj
 ·rw[List.getElem?_eq_none (by omega),List.getElem?_eq_none (by rw[yaho];omega)]
theorem Row.put3 {w:World} {e:TypeId} {lo hi:Nat} {b n cap:Nat} {ys:List Value} (h:Row w e 3 lo hi (.slice (some ⟨b,0,none⟩) n cap) n ys) (k:Nat) (x y z:Value) :
  Row (((w.setCell ⟨b,k*3,none⟩ x).setCell ⟨b,k*3+1,none⟩ y).setCell ⟨b,k*3+2,none⟩ z) e 3 lo hi (.slice (some ⟨b,0,none⟩) n cap) n (put3 ys k x y z) :=
 ((h.stored (k*3) x).stored (k*3+1) y).stored (k*3+2) z
theorem zuv (v:Value) (ps:List St) (w:World) (h:RdS w v ps) (hn:ps.length≤1048576) :
  Calls Tryz.prog 85 #[v] w fun e w'=>∃ v',e=.returned v'∧Row w' 190 3 w.heap.size w'.heap.size v' ps.length (sts ps)∧Below w.heap.size w w':=by
 obtain ⟨ao,cap,rfl,hcap,hc⟩:=h.shape;clear h;have hmk:=zkv (P:=Tryz.prog) 41 190 (.agg #[.int .i64 0,.int .i64 0,.bool false]) 3 24 Tryz.underlying41 yasg .i64 .i64 ps.length (by omega) (by omega);go_enter Tryz.func85,Tryz.ntmps85;go_wp2
 go_loopw [4] (fun i wr=>∃ k:Nat,k≤ps.length∧i=.int .i64 k∧(∃ ys,Row wr 190 3 w.heap.size (w.heap.size+1) (.slice (some ⟨w.heap.size,0,none⟩) ps.length ps.length) ps.length ys∧∀ j,j < k*3→ys[j]?=(sts ps)[j]?)∧Below w.heap.size w wr∧w.heap.size+1≤wr.heap.size) (fun i _=>ps.length - (intOf i).toNat)
 case atStart =>
  refine ⟨0,by omega,rfl,⟨_,yaca w (.agg #[.int .i64 0,.int .i64 0,.bool false]) 3 ps.length 190 (by simp[maxLen];omega),fun j hj=>absurd hj (by omega)⟩,(Below.refl _ _).alloc (Nat.le_refl _) _,by simp⟩
 case round =>
  obtain ⟨k,hk,rfl,⟨ys,hrow,hys⟩,hb,hz⟩:=hrel
  by_cases hlt:k < ps.length
  ·obtain ⟨b,o,rfl,hbl,hcell⟩:=hc (by omega);obtain ⟨c0,c1,c2⟩:=hcell k hlt;have d0:=(hb.cell (p:=⟨b,o+k*3,none⟩) hbl).trans c0;have d1:=(hb.cell (p:=⟨b,o+k*3+1,none⟩) hbl).trans c1;have d2:=(hb.cell (p:=⟨b,o+k*3+2,none⟩) hbl).trans c2;have RH:=zaa hrow;have YH:=zaa hys;clear hcell hc c0 c1 c2 hrow hys;go_wp2_with fail;refine (zym _ _ _ _).mono ?_;rintro e w1 ⟨rfl,hb1⟩;have R1:=zaa (RH.o.below hb1 (by omega))
   obtain ⟨_,_,_,hsz,hfr,hcl⟩:=R1.o.at
   have hl:=RH.o.len;have f0:=hfr (k*3);have f1:=hfr (k*3+1);have f2:=hfr (k*3+2)
   have e0:w1.cell? ⟨w.heap.size,k*3,none⟩=some (ys[k*3]'(by omega)):=by rw[hcl _ (by omega)];simp
   have e1:w1.cell? ⟨w.heap.size,k*3+1,none⟩=some (ys[k*3+1]'(by omega)):=by rw[hcl _ (by omega)];simp
   have e2:w1.cell? ⟨w.heap.size,k*3+2,none⟩=some (ys[k*3+2]'(by omega)):=by rw[hcl _ (by omega)];simp
   have BH:=zaa (hb.trans (hb1.mono (show w.heap.size≤wr.heap.size by omega)));have hz1:=hb1.size;clear hfr hcl hb1 hb d0 d1 d2;have P1:=zaa (R1.o.put3 k (.int .i64 ps[k].at_) (.int .i64 ps[k].val) (.bool ps[k].fl));have B1:=zaa (((BH.o.setCell (p:=⟨w.heap.size,k*3,none⟩) (Nat.le_refl _) (.int .i64 ps[k].at_)).setCell (p:=⟨w.heap.size,k*3+1,none⟩) (Nat.le_refl _) (.int .i64 ps[k].val)).setCell (p:=⟨w.heap.size,k*3+2,none⟩) (Nat.le_refl _) (.bool ps[k].fl));go_wp2
   go_roundw
   case rel=>exact ⟨k+1,by omega,by go_num,⟨_,P1.o,zuu hlt hl YH.o⟩,B1.o,by simp;omega⟩
   case measure=>simp[intOf];omega
  ·have e:k=ps.length:=by omega
   subst e;have hl:=hrow.len;have RH:=zaa hrow;have YH:=zaa hys;clear hrow hys hc;go_wp2;go_ret;have e:=yajg hl YH.o;refine ⟨_,rfl,?_,hb⟩;rw[← e];exact RH.o.wide (Nat.le_refl _) hz
theorem zml (ao:Option Addr) (n cap:Nat) (left:Int) (w:World) (hn:n≤maxLen) (h0:0≤left) (h1:left≤1048576) :
  Calls Tryz.prog 74 #[.slice ao n cap,.int .i64 left] w fun e w'=>e=.returned (.int .i64 (zjg left n))∧w'=w:=by
 unfold maxLen at hn
 by_cases h:left < n
 ·have e:zjg left n=-1:=by unfold zjg;rw[if_pos h]
  rw[e];clear e;go_enter Tryz.func74,Tryz.ntmps74;go_wp2;go_ret;exact ⟨rfl,rfl⟩
 ·have e:zjg left n=left - n:=by unfold zjg;rw[if_neg h]
  rw[e];clear e;go_enter Tryz.func74,Tryz.ntmps74;go_wp2;go_ret;exact ⟨rfl,rfl⟩
theorem zwm (a v:Int) (f:Bool) (w:World):Calls Tryz.prog 192 #[.agg #[.int .i64 a,.int .i64 v,.bool f],.agg #[.int .i64 a,.int .i64 v,.bool f]] w fun e w'=>e=.returned (.bool true)∧Below w.heap.size w w':=by
 go_enter Tryz.func192,Tryz.ntmps192;go_wp2;go_ret;refine ⟨rfl,?_⟩
 repeat (refine Below.alloc ?_ (by simp <;> omega) _)
 exact Below.refl _ _
structure Den where
 dir:Int
 name:ByteArray
 child:Int
def Den.v (x:Den):Value:=.agg #[.int .i64 x.dir,.string x.name,.int .i64 x.child]
def Den.freeB (x:Den):Bool:=x.dir == 0 && (x.name.size == 0 && x.child == -1)
def Den.okB (x:Den):Bool:=x.freeB || (decide (1≤x.child∧x.child≤15) && (decide (0≤x.dir∧x.dir≤15) && nmB x.name))
def enL (k:Int) (x:Den):List Se:=[⟨240+3*k,x.dir⟩,⟨240+3*k+1,((pk x.name x.name.size:Nat):Int)⟩,⟨240+3*k+2,x.child+1⟩]
theorem zum (s:ByteArray) (w:World) (hs:s.size=0):Calls Tryz.prog 273 #[.string s] w fun e w'=>e=.returned (.int .i64 ((pk s s.size:Nat):Int))∧w'=w:=by
 have E:=zaa (show ((pk s s.size:Nat):Int)=0 by rw[hs,zyy];rfl);rw[E.o];go_enter Tryz.func273,Tryz.ntmps273;go_wp2
 go_loop [3,4] (fun n i=>i=.int .i64 0∧n=.int .i64 0) (fun _ i=>0)
 case atStart=>exact ⟨rfl,rfl⟩
 case round =>
  obtain ⟨rfl,rfl⟩:=hrel;go_wp2;go_ret;exact ⟨rfl,rfl⟩
theorem zfi (k:Int) (x:Den) (w:World) (hk:0≤k∧k < 24) (hc:-1≤x.child∧x.child≤15) (hn:x.name.size=0∨nmB x.name=true) :
  Calls Tryz.prog 228 #[.int .i64 k,x.v] w fun e w'=>∃ v',e=.returned v'∧Row w' 180 2 w.heap.size w'.heap.size v' (enL k x).length (ses (enL k x))∧Below w.heap.size w w':=by
 have LP:=zaa (fun w1=>show Calls Tryz.prog 273 #[.string x.name] w1 fun e w'=>e=.returned (.int .i64 ((pk x.name x.name.size:Nat):Int))∧w'=w1 by
  rcases hn with h | h
  ·exact zum _ _ h
  ·exact zye _ _ h)
 clear hn;have EL:=zaa (show enL k x=[⟨240+3*k,x.dir⟩,⟨240+3*k+1,((pk x.name x.name.size:Nat):Int)⟩,⟨240+3*k+2,x.child+1⟩] from rfl);generalize ((pk x.name x.name.size:Nat):Int)=p at LP EL
 obtain ⟨W,hW⟩:∃ W,W=w.alloc (.cells #[.int .i64 x.dir,.string x.name,.int .i64 x.child] 185):=⟨_,rfl⟩
 have SK:Hid (∀ w',Below W.heap.size W w'→w'.cell? ⟨w.heap.size,0,none⟩=some (.int .i64 x.dir)∧w'.cell? ⟨w.heap.size,1,none⟩=some (.string x.name)∧w'.cell? ⟨w.heap.size,2,none⟩=some (.int .i64 x.child)):=fun w' hb=>by
  have:w'.heap[w.heap.size]?=some (.cells #[.int .i64 x.dir,.string x.name,.int .i64 x.child] 185 (0,0)):=(hb.block _ (by rw[hW];simp)).trans (by rw[hW];exact zah rfl);exact zaz this
 have BW:Hid (Below w.heap.size w W):=by rw[hW];exact (Below.refl _ _).alloc (Nat.le_refl _) _
 have hz:w.heap.size≤W.heap.size:=BW.o.size;unfold Den.v;go_enter Tryz.func228,Tryz.ntmps228;go_wp2_with fail;rw[← hW];clear hW
 go_region_held3 (fun w'=>w'.cell? ⟨w.heap.size,0,none⟩=some (.int .i64 x.dir)∧w'.cell? ⟨w.heap.size,1,none⟩=some (.string x.name)∧w'.cell? ⟨w.heap.size,2,none⟩=some (.int .i64 x.child))
  (exact SK.o _ (by repeat (first | exact Below.refl _ _ | refine Below.drew ?_ | refine Below.alloc ?_ (by simp) _)))
  (first | (go_at_call 194;refine (zdm _ _ _ hk (by omega)).mono ?_;rintro e w' ⟨rfl,hw'⟩;subst w') | (go_at_call 273;refine (LP.o _).mono ?_;rintro e w' ⟨rfl,hw'⟩;subst w'))
 have wp1:IntKind.i64.wrap (x.child+1)=x.child+1:=by rw[IntKind.wrap_i64];omega
 rw[wp1]
 have R:Hid (UpI W (W.alloc (.cells #[.int .i64 (240+3*k),.int .i64 x.dir,.int .i64 (240+3*k+1),.int .i64 p,.int .i64 (240+3*k+2),.int .i64 (x.child+1)] 180)).drew (.slice (some ⟨W.heap.size,0,none⟩) 3 3) (enL k x)):=by
  show UpI _ _ _ _
  rw[EL.o];exact UpI.below (w:=W.alloc (.cells #[.int .i64 (240+3*k),.int .i64 x.dir,.int .i64 (240+3*k+1),.int .i64 p,.int .i64 (240+3*k+2),.int .i64 (x.child+1)] 180)) ⟨World.ownsRow_lit W _ 3 (Nat.le_refl _) (by simp[maxLen]) rfl,(Below.refl _ _).alloc (Nat.le_refl _) _⟩ ((Below.refl _ _).drew)
 go_wp2;go_ret;exact ⟨_,rfl,(zad R.o.l).wide hz (Nat.le_refl _),zab BW.o R.o.b hz⟩
theorem zpr (s:ByteArray):s.toList=[]↔s.size=0:=by
 rw[ByteArray.toList_eq];obtain ⟨⟨x⟩⟩:=s
 show x=[]↔x.length=0
 exact List.length_eq_zero_iff.symm
def duC (k:Int) (x:Den):Int:=if 0≤k∧k≤23 then (if x.okB=true then 0 else 1) else 4
def duL (k:Int) (x:Den):List Se:=if 0≤k∧k≤23 then (if x.okB=true then enL k x else []) else []
theorem yamx (k:Int) (x:Den):(¬ (0≤k∧k≤23)∧duC k x=4∧duL k x=[])∨((0≤k∧k≤23)∧x.okB=false∧duC k x=1∧duL k x=[])∨((0≤k∧k≤23)∧x.okB=true∧duC k x=0∧duL k x=enL k x):=by
 unfold duC duL
 by_cases h:0≤k∧k≤23
 ·cases q:x.okB
  ·exact .inr (.inl ⟨h,rfl,by rw[if_pos h,if_neg (by decide)],by rw[if_pos h,if_neg (by decide)]⟩)
  ·exact .inr (.inr ⟨h,rfl,by rw[if_pos h,if_pos rfl],by rw[if_pos h,if_pos rfl]⟩)
 ·exact .inl ⟨h,by rw[if_neg h],by rw[if_neg h]⟩
def Den.cells (s:Den):List Value:=[.int .i64 s.dir,.string s.name,.int .i64 s.child]
def zhd (ps:List Den):List Value:=ps.flatMap Den.cells
theorem Den.cells_len (s:Den):s.cells.length=3:=rfl
theorem yaau (ps:List Den):(zhd ps).length=ps.length*3:=zgn _ 3 Den.cells_len ps
theorem yaml (ps:List Den) (k:Nat) (h:k < ps.length):(zhd ps)[k*3]?=some (.int .i64 ps[k].dir):=zbr _ 3 Den.cells_len ps k 0 h (by omega)
theorem yalc (ps:List Den) (k:Nat) (h:k < ps.length):(zhd ps)[k*3+1]?=some (.string ps[k].name):=zbr _ 3 Den.cells_len ps k 1 h (by omega)
theorem yamj (ps:List Den) (k:Nat) (h:k < ps.length):(zhd ps)[k*3+2]?=some (.int .i64 ps[k].child):=zbr _ 3 Den.cells_len ps k 2 h (by omega)
def RdD (w:World) (v:Value) (ps:List Den):Prop:=Rd w 3 v ps.length (zhd ps)
theorem RdD.shape {w:World} {v:Value} {ps:List Den} (h:RdD w v ps):∃ ao cap,v=.slice ao ps.length cap∧ps.length≤cap∧(0 < ps.length→∃ b o,ao=some ⟨b,o,none⟩∧b < w.heap.size ∧
  ∀ k (h:k < ps.length),w.cell? ⟨b,o+k*3,none⟩=some (.int .i64 ps[k].dir)∧w.cell? ⟨b,o+k*3+1,none⟩=some (.string ps[k].name)∧w.cell? ⟨b,o+k*3+2,none⟩=some (.int .i64 ps[k].child)):=by
 obtain ⟨_,ao,cap,rfl,h2,h3⟩:=h;refine ⟨ao,cap,rfl,h2.1,fun hn=>?_⟩;obtain ⟨b,o,rfl,hb,hc⟩:=h3 hn;exact ⟨b,o,rfl,hb,fun k hk=>⟨(hc (k*3) (by omega)).trans (yaml ps k hk),(hc (k*3+1) (by omega)).trans (yalc ps k hk),(hc (k*3+2) (by omega)).trans (yamj ps k hk)⟩⟩
theorem zok:(Tryz.prog.info? 185).map (fun i=>(i.zero,i.size,i.bytes))=some (some (.agg #[.int .i64 0,.string ⟨#[]⟩,.int .i64 0]),3,32):=by kernel_rfl
def RdIm (w:World) (v:Value) (ws:List Ino) (ps:List Den):Prop:=∃ vW vP,v=.agg #[vW,vP]∧RdN w vW ws∧RdD w vP ps
def RowIm (w:World) (lo hi:Nat) (v:Value) (ws:List Ino) (ps:List Den):Prop:=∃ vW vP,v=.agg #[vW,vP]∧Row w 133 11 lo hi vW ws.length (inos ws)∧Row w 185 3 lo hi vP ps.length (zhd ps)
theorem RowIm.rd {w:World} {lo hi:Nat} {v:Value} {ws:List Ino} {ps:List Den} (h:RowIm w lo hi v ws ps):RdIm w v ws ps:=by
 obtain ⟨vW,vP,rfl,h1,h2⟩:=h;exact ⟨vW,vP,rfl,h1.rd,h2.rd⟩
theorem RdIm.below {w w':World} {v:Value} {ws:List Ino} {ps:List Den} (h:RdIm w v ws ps) (hb:Below w.heap.size w w'):RdIm w' v ws ps:=by
 obtain ⟨vW,vP,rfl,h1,h2⟩:=h;exact ⟨vW,vP,rfl,Rd.below h1 hb,Rd.below h2 hb⟩
theorem RowIm.below {w w':World} {lo hi:Nat} {v:Value} {ws:List Ino} {ps:List Den} (h:RowIm w lo hi v ws ps) {B:Nat} (hb:Below B w w') (hB:hi≤B):RowIm w' lo hi v ws ps:=by
 obtain ⟨vW,vP,rfl,h1,h2⟩:=h;exact ⟨vW,vP,rfl,h1.below hb hB,h2.below hb hB⟩
end Go.Proofs.YtehnphoeplmpdaaGreatDoor
