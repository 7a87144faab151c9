/- Several texts laid together: WdM, Nm, MkT, ImA, Wt. -/
import Derived.WalkKit
import Derived.Test.YtahiphgmhndgaaaGreatDoorZAA
import Derived.Laws.IdiomStrings
import Derived.Laws.BytesArg
import Derived.Deep.OwnRows
import Derived.Test.YtahiphgmhndgaaaGreatDoorZAD
import Derived.BigQuiet
import Derived.Deep.QuietTactic
set_option maxRecDepth 100000
set_option maxHeartbeats 4000000
namespace Go.Proofs.YtahiphgmhndgaaaGreatDoor
def zul (n:Nat):List Nat:=if _h:n=0 then [] else zul (n / 27) ++ [n % 27]
termination_by n
decreasing_by omega
theorem zqa:zul 0=[]:=by rw[zul];simp
theorem zkh {n:Nat} (h:0 < n):zul n=zul (n / 27) ++ [n % 27]:=by rw[zul];simp[show n≠0 by omega]
def val (ds:List Nat):Nat:=ds.foldl (fun a d=>27*a+d) 0
theorem yacm (ds:List Nat) (d:Nat):val (ds ++ [d])=27*val ds+d:=by simp[val]
theorem yalm {n:Nat} (h:0 < n):1≤(zul n).length:=by rw[zkh h];simp
theorem yaoq {α:Type} {P:List α→Prop} (h0:P []) (h1:∀ l x,P l→P (l ++ [x])):∀ l,P l:=by
 intro l
 have:∀ n (l:List α),l.length=n→P l:=by
  intro n
  induction n with
  | zero=>intro l hl;rw[List.length_eq_zero_iff.1 hl];exact h0
  | succ n ih =>
   intro l hl
   have hne:l≠[]:=by intro h;subst h;simp at hl
   rw[← List.dropLast_concat_getLast hne];exact h1 _ _ (ih _ (by simp[hl]))
 exact this _ l rfl
theorem yavd (ds:List Nat):(∀ d∈ds,d < 27)→val ds < 27 ^ ds.length:=by
 refine yaoq (P:=fun ds=>(∀ d∈ds,d < 27)→val ds < 27 ^ ds.length) (fun _=>by simp[val]) (fun l x ih h=>?_) ds;have hx:=h x (by simp);have:=ih (fun d hd=>h d (by simp[hd]));rw[yacm,List.length_append,List.length_singleton,Nat.pow_succ];omega
theorem yano (k:Nat):∀ n,n < 27 ^ k→(zul n).length≤k:=by
 induction k with
 | zero =>
  intro n h
  have:n=0:=by simpa using h
  subst this;rw[zqa];simp
 | succ k ih =>
  intro n h
  by_cases h0:n=0
  ·subst h0;rw[zqa];simp
  ·rw[zkh (by omega),List.length_append,List.length_singleton];have:=ih (n / 27) (by rw[Nat.pow_succ] at h;omega);omega
structure Dg (n m:Nat) (ds:List Nat):Prop where
 eq:zul n=zul m ++ ds
 ok:∀ d∈ds,1≤d∧d < 27
theorem Dg.start (n:Nat):Dg n n []:=⟨by simp,fun d h=>by cases h⟩
theorem Dg.step {n m:Nat} {ds:List Nat} (h:Dg n m ds) (hm:0 < m) (h1:m % 27≠0):Dg n (m / 27) (m % 27 :: ds) :=
 ⟨by rw[h.eq,zkh hm];simp,fun d hd=>by
  rcases List.mem_cons.1 hd with rfl | hd
  ·omega
  ·exact h.ok d hd⟩
theorem Dg.zero {n m:Nat} {ds:List Nat} (h:Dg n m ds) (hm:0 < m) (h0:m % 27=0):¬ ∀ d∈zul n,1≤d:=fun x=>by
 have:=x (m % 27) (by rw[h.eq,zkh hm];simp);omega
theorem Dg.many {n m:Nat} {ds:List Nat} (h:Dg n m ds) (hm:0 < m):ds.length < (zul n).length:=by
 rw[h.eq,zkh hm];simp;omega
theorem Dg.len {n m:Nat} {ds:List Nat} (h:Dg n m ds):ds.length≤(zul n).length:=by rw[h.eq];simp
theorem Dg.done {n:Nat} {ds:List Nat} (h:Dg n 0 ds):zul n=ds:=by rw[h.eq,zqa];simp
def nmB (s:ByteArray):Bool:=decide (1≤s.size∧s.size≤6∧∀ j (h:j < s.size),97≤s[j].toNat∧s[j].toNat≤122)
theorem zyd {s:ByteArray} (h:s.size < 1):nmB s=false:=decide_eq_false (fun x=>by omega)
theorem ztx {s:ByteArray} (h:6 < s.size):nmB s=false:=decide_eq_false (fun x=>by omega)
theorem zpd {s:ByteArray} {k:Nat} (h:k < s.size) (hb:¬ (97≤s[k].toNat∧s[k].toNat≤122)):nmB s=false:=decide_eq_false (fun x=>hb (x.2.2 k h))
theorem yaap {s:ByteArray} (h0:1≤s.size) (h6:s.size≤6) (h:∀ j (h:j < s.size),97≤s[j].toNat∧s[j].toNat≤122):nmB s=true:=decide_eq_true ⟨h0,h6,h⟩
theorem yaph {s:ByteArray} (h:nmB s=true):1≤s.size∧s.size≤6∧∀ j (h:j < s.size),97≤s[j].toNat∧s[j].toNat≤122:=of_decide_eq_true h
def letD (b:UInt8):Nat:=b.toNat - 96
def ltrs (s:ByteArray):List Nat:=s.data.toList.map letD
def pk (s:ByteArray) (k:Nat):Nat:=val ((ltrs s).take k)
theorem zuy (s:ByteArray):(ltrs s).length=s.size:=by unfold ltrs;rw[List.length_map,Array.length_toList];rfl
theorem yajo (s:ByteArray) (j:Nat) (h:j < s.size):(ltrs s)[j]'(by rw[zuy];exact h)=s[j].toNat - 96:=by
 simp only[ltrs,List.getElem_map,letD,Array.getElem_toList];rfl
theorem yatg (s:ByteArray):pk s 0=0:=by simp[pk,val]
theorem yasr (s:ByteArray) (k:Nat) (h:k < s.size):pk s (k+1)=27*pk s k+(s[k].toNat - 96):=by
 unfold pk;rw[List.take_succ_eq_append_getElem (by rw[zuy];exact h),yacm,yajo s k h]
theorem yawf {s:ByteArray} {k:Nat} (hl:∀ j (h:j < s.size),j < k→97≤s[j].toNat∧s[j].toNat≤122) (h6:k≤6):pk s k < 387420489:=by
 have h1:pk s k < 27 ^ ((ltrs s).take k).length:=by
  unfold pk;apply yavd;intro d hd;obtain ⟨i,hi,rfl⟩:=List.getElem_of_mem hd;simp only[List.length_take,zuy] at hi;rw[List.getElem_take,yajo s i (by omega)];have:=hl i (by omega) (by omega);omega
 have h2:((ltrs s).take k).length≤6:=by simp only[List.length_take];omega
 have h3:27 ^ ((ltrs s).take k).length≤27 ^ 6:=Nat.pow_le_pow_right (by omega) h2;omega
def zcu (ds:List Nat):ByteArray:=⟨(ds.map fun d=>UInt8.ofNat (96+d)).toArray⟩
theorem zch (ds:List Nat):(zcu ds).size=ds.length:=by simp[zcu,ByteArray.size]
theorem yago (ds:List Nat) (j:Nat) (h:j < (zcu ds).size) (hd:∀ d∈ds,d < 27):(zcu ds)[j].toNat=96+ds[j]'(by rw[zch] at h;exact h):=by
 have hj:j < ds.length:=by rw[zch] at h;exact h
 have:=hd _ (List.getElem_mem hj)
 have e:(zcu ds)[j]=UInt8.ofNat (96+ds[j]):=by
  have e1:(zcu ds)[j]=((ds.map fun d=>UInt8.ofNat (96+d)).toArray)[j]'(by simpa using hj):=rfl;rw[e1,List.getElem_toArray,List.getElem_map]
 rw[e,UInt8.toNat_ofNat'];omega
theorem zxw (d:Nat) (ds:List Nat):(⟨#[UInt8.ofNat (96+d)]⟩:ByteArray) ++ zcu ds=zcu (d :: ds):=by
 apply ByteArray.ext;simp[zcu]
theorem yaaq {ds:List Nat} (hd:∀ d∈ds,1≤d∧d < 27) (h1:1≤ds.length) (h6:ds.length≤6):nmB (zcu ds)=true:=by
 refine yaap (by rw[zch];exact h1) (by rw[zch];exact h6) (fun j h=>?_);rw[yago ds j h (fun d x=>(hd d x).2)];have:=hd _ (List.getElem_mem (by rw[zch] at h;exact h));omega
def zgo (n:Int):Bool:=decide (0 < n∧(∀ d∈zul n.toNat,1≤d)∧(zul n.toNat).length≤6)
def zzm (n:Int):ByteArray:=if zgo n=true then zcu (zul n.toNat) else ⟨#[]⟩
def unpC (n:Int):Int:=if zgo n=true then 0 else 3
def zxj (s:ByteArray):Int:=if nmB s=true then (pk s s.size:Nat) else 0
def zrp (s:ByteArray):Int:=if 65536 < s.size then 2 else if nmB s=true then 0 else 12
theorem yabk {n:Int} (h:zgo n=false):zzm n=⟨#[]⟩∧unpC n=3:=by unfold zzm unpC;rw[h];exact ⟨rfl,rfl⟩
theorem yaaw {n:Int} (h:¬ 0 < n):zgo n=false:=decide_eq_false (fun x=>h x.1)
theorem yadm {n:Nat} {m:Nat} {ds:List Nat} (h:Dg n m ds) (hm:0 < m) (h0:m % 27=0):zgo (n:Int)=false:=decide_eq_false (fun x=>h.zero hm h0 x.2.1)
theorem yapt {n:Nat} {m:Nat} {ds:List Nat} (h:Dg n m ds) (hm:0 < m) (h6:6≤ds.length):zgo (n:Int)=false:=decide_eq_false (fun x=>by have:=h.many hm;have:=x.2.2;simp only[Int.toNat_natCast] at this;omega)
theorem yaqc {n:Nat} {ds:List Nat} (h:Dg n 0 ds) (hn:0 < n) (h6:ds.length≤6):zzm (n:Int)=zcu ds∧unpC (n:Int)=0:=by
 have g:zgo (n:Int)=true:=decide_eq_true ⟨by omega,by rw[Int.toNat_natCast,h.done];exact fun d x=>(h.ok d x).1,by rw[Int.toNat_natCast,h.done];exact h6⟩;unfold zzm unpC;rw[if_pos g,if_pos g,Int.toNat_natCast,h.done];exact ⟨rfl,rfl⟩
end Go.Proofs.YtahiphgmhndgaaaGreatDoor

namespace Go.Proofs.YtahiphgmhndgaaaGreatDoor
open Go.RowKit
theorem yacc {a b:ByteArray} {c d:Int} (h:a=b) (k:c=d):Ending.returned (.tuple #[.string a,.int .i64 c])=.returned (.tuple #[.string b,.int .i64 d]):=by rw[h,k]
theorem yarj {a b:ByteArray} {c d:Bool} (h:a=b) (k:c=d):Ending.returned (.tuple #[.string a,.bool c])=.returned (.tuple #[.string b,.bool d]):=by rw[h,k]
theorem yagq (n:Int) (w:World) (h:1≤n∧n≤6):Calls Tryz.prog 43 #[.int .i64 n,.int .i64 1,.int .i64 6] w fun e w'=>e=.returned (.bool true)∧w'=w:=by
 obtain ⟨h1,h2⟩:=h;go_enter Tryz.func43,Tryz.ntmps43;go_wp2;go_ret;exact ⟨rfl,rfl⟩
theorem yaik (n:Int) (w:World) (h:¬ (1≤n∧n≤6)):Calls Tryz.prog 43 #[.int .i64 n,.int .i64 1,.int .i64 6] w fun e w'=>e=.returned (.bool false)∧w'=w:=by
 rcases (show ¬ 1≤n∨(1≤n∧¬ n≤6) by omega) with h1 | ⟨h1,h2⟩
 all_goals
  clear h;go_enter Tryz.func43,Tryz.ntmps43;go_wp2;go_ret;exact ⟨rfl,rfl⟩
theorem zft (s:ByteArray) (w:World) (hs:s.size≤maxLen):Calls Tryz.prog 179 #[.string s] w fun e w'=>e=.returned (.bool (nmB s))∧w'=w:=by
 unfold maxLen at hs
 by_cases c:1≤s.size∧s.size≤6
 ·have c':1≤(s.size:Int)∧(s.size:Int)≤6:=by omega
  have C:=zaa c';obtain ⟨c1,c2⟩:=c;clear c';go_enter Tryz.func179,Tryz.ntmps179;go_wp2_with (go_at_call 43;refine (yagq _ _ C.o).mono ?_;rintro e w' ⟨rfl,rfl⟩)
  go_loop [3] (fun i=>∃ k:Nat,k≤s.size∧i=.int .i64 k∧Hid (∀ j (h:j < s.size),j < k→97≤s[j].toNat∧s[j].toNat≤122)) (fun i=>s.size - (intOf i).toNat)
  case atStart=>exact ⟨0,by omega,rfl,fun j h b=>absurd b (by omega)⟩
  case round =>
   obtain ⟨k,hk,rfl,H⟩:=hrel
   by_cases hlt:k < s.size
   ·rcases (show ((s[k].toNat:Int) < 97)∨(¬ ((s[k].toNat:Int) < 97)∧(122:Int) < (s[k].toNat:Int))∨(¬ ((s[k].toNat:Int) < 97)∧¬ (122:Int) < (s[k].toNat:Int)) by omega) with d | ⟨d,d'⟩ | ⟨d,d'⟩
    ·have E:=zaa (zpd hlt (by omega));go_wp2;go_ret;exact ⟨zae E.o.symm,rfl⟩
    ·have E:=zaa (zpd hlt (by omega));go_wp2;go_ret;exact ⟨zae E.o.symm,rfl⟩
    ·go_wp2
     go_round
     case rel =>
      refine ⟨k+1,by omega,by go_num,fun j h b=>?_⟩
      by_cases e:j=k
      ·subst e;omega
      ·exact H.o j h (by omega)
     case measure=>simp[intOf];omega
   ·have E:=zaa (yaap c1 c2 (fun j h=>H.o j h (by omega)));go_wp2;go_ret;exact ⟨zae E.o.symm,rfl⟩
 ·have c':¬ (1≤(s.size:Int)∧(s.size:Int)≤6):=by omega
  have C:=zaa c';have E:=zaa (show nmB s=false from decide_eq_false (fun x=>c ⟨x.1,x.2.1⟩));clear c c';go_enter Tryz.func179,Tryz.ntmps179;go_wp2_with (go_at_call 43;refine (yaik _ _ C.o).mono ?_;rintro e w' ⟨rfl,rfl⟩);go_ret;exact ⟨zae E.o.symm,rfl⟩
theorem yahn {s:ByteArray} (h:65536 < s.size):zxj s=0∧zrp s=2:=by
 unfold zxj zrp;rw[if_neg (by rw[ztx (by omega)];simp),if_pos h];exact ⟨rfl,rfl⟩
theorem zoi {s:ByteArray} (h:¬ 65536 < s.size) (h2:nmB s=false):zxj s=0∧zrp s=12:=by
 unfold zxj zrp;rw[h2,if_neg h];exact ⟨rfl,rfl⟩
theorem yanv {s:ByteArray} (h:nmB s=true):zxj s=((pk s s.size:Nat):Int)∧zrp s=0:=by
 unfold zxj zrp;have:=(yaph h).2.1;rw[if_pos h,if_neg (by omega),if_pos h];exact ⟨rfl,rfl⟩
theorem znh (s:ByteArray) (w:World) (hs:s.size≤maxLen):Calls Tryz.prog 218 #[.string s] w fun e w'=>e=.returned (.tuple #[.int .i64 (zxj s),.int .i64 (zrp s)])∧Below w.heap.size w w':=by
 unfold maxLen at hs
 by_cases c0:65536 < s.size
 ·have E:=zaa (yahn c0);go_enter Tryz.func218,Tryz.ntmps218;go_wp2;go_ret2;exact ⟨zmd E.o.1.symm E.o.2.symm,Below.refl _ _⟩
 by_cases c1:s.size < 1
 ·have E:=zaa (zoi c0 (zyd c1));go_enter Tryz.func218,Tryz.ntmps218;go_wp2;go_ret2;exact ⟨zmd E.o.1.symm E.o.2.symm,Below.refl _ _⟩
 by_cases c2:6 < s.size
 ·have E:=zaa (zoi c0 (ztx c2));go_enter Tryz.func218,Tryz.ntmps218;go_wp2;go_ret2;exact ⟨zmd E.o.1.symm E.o.2.symm,Below.refl _ _⟩
 have hconv:=run_bytes_of_string (P:=Tryz.prog) w 9 197 5 s Tryz.underlying9 Tryz.underlying197 Tryz.underlying5;generalize hcap:grownCap w s.size 0 5=cap at hconv
 have CELL:Hid (∀ k (h:k < s.size),(w.drew.alloc (.cells (bytesRow s cap) 5 ((bytesRow s cap).size,(bytesRow s cap).size+1))).cell? ⟨w.heap.size,k,none⟩=some (.int .u8 (s[k].toNat:Int))):=fun k h=>by
  have e:=World.cell?_alloc_mark w.drew (bytesRow s cap) 5 ((bytesRow s cap).size,(bytesRow s cap).size+1) k;rw[bytesRow_at s cap k h] at e;exact e
 have BB:Hid (Below w.heap.size w (w.drew.alloc (.cells (bytesRow s cap) 5 ((bytesRow s cap).size,(bytesRow s cap).size+1)))):=((Below.refl _ _).drew).alloc (Nat.le_refl _) _;clear hcap;generalize w.drew.alloc (.cells (bytesRow s cap) 5 ((bytesRow s cap).size,(bytesRow s cap).size+1))=w1 at hconv CELL BB;go_enter Tryz.func218,Tryz.ntmps218;go_wp2
 go_loop [4,6,21] (fun n _ i=>∃ k:Nat,k≤s.size∧i=.int .i64 k∧n=.int .i64 ((pk s k:Nat):Int)∧Hid (∀ j (h:j < s.size),j < k→97≤s[j].toNat∧s[j].toNat≤122)) (fun _ _ i=>s.size - (intOf i).toNat)
 case atStart=>exact ⟨0,by omega,rfl,by rw[yatg];rfl,fun j h b=>absurd b (by omega)⟩
 case round =>
  obtain ⟨k,hk,rfl,rfl,H⟩:=hrel
  by_cases hlt:k < s.size
  ·have x0:=CELL.o k hlt;have bd:pk s k < 387420489:=yawf H.o (by omega);have SU:=zaa (yasr s k hlt);have b255:s[k].toNat < 256:=s[k].toNat_lt;have NO:=zaa (zpd (s:=s) hlt)
   have NX:Hid (97≤s[k].toNat∧s[k].toNat≤122→∀ j (h:j < s.size),j < k+1→97≤s[j].toNat∧s[j].toNat≤122):=fun hx j h b=>by
    by_cases e:j=k
    ·subst e;exact hx
    ·exact H.o j h (by omega)
   generalize s[k].toNat=x at x0 SU b255 NO NX
   rcases (show ((x:Int) < 97)∨(¬ ((x:Int) < 97)∧(122:Int) < (x:Int))∨(¬ ((x:Int) < 97)∧¬ (122:Int) < (x:Int)) by omega) with d | ⟨d,d'⟩ | ⟨d,d'⟩
   ·have E:=zaa (zoi c0 (NO.o (by omega)));go_wp2;go_ret2;exact ⟨zmd E.o.1.symm E.o.2.symm,BB.o⟩
   ·have E:=zaa (zoi c0 (NO.o (by omega)));go_wp2;go_ret2;exact ⟨zmd E.o.1.symm E.o.2.symm,BB.o⟩
   ·go_wp2
    go_round
    case rel=>exact ⟨k+1,by omega,by go_num,by rw[SU.o];congr 1;omega,NX.o (by omega)⟩
    case measure=>simp[intOf];omega
  ·have ek:k=s.size:=by omega
   subst ek;have E:=zaa (yanv (yaap (s:=s) (by omega) (by omega) (fun j h=>H.o j h h)));go_wp2;go_ret2;exact ⟨zmd E.o.1.symm E.o.2.symm,BB.o⟩
def mkS:Nat→Nat→ByteArray→ByteArray
 | 0,_,acc=>acc
 | f+1,k,acc=>if k=0 then acc else mkS f (k / 10) (⟨#[UInt8.ofNat (48+k % 10)]⟩ ++ acc)
theorem yanz:∀ (f:Nat) (acc:ByteArray),mkS f 0 acc=acc
 | 0,_=>rfl
 | f+1,acc=>by unfold mkS;rw[if_pos rfl]
def mtx (k:Nat):ByteArray:=if k=0 then ⟨#[109,48]⟩ else ⟨#[109]⟩ ++ mkS 40 k ⟨#[]⟩
theorem zmw (k:Nat) (w:World) (hk:k≤4611686018427387904) :
  Calls Tryz.prog 118 #[.int .i64 (k:Int)] w fun e w'=>e=.returned (.string (mtx k))∧Below w.heap.size w w':=by
 by_cases h0:k=0
 ·subst h0;rw[show mtx 0=⟨#[109,48]⟩ from rfl];go_enter Tryz.func118,Tryz.ntmps118;go_wp2;go_ret;exact ⟨rfl,Below.refl _ _⟩
 ·have E:=zaa (show mtx k=⟨#[109]⟩ ++ mkS 40 k ⟨#[]⟩ from if_neg h0);have P10:Hid (k < 10 ^ 40):=Nat.lt_of_le_of_lt hk (by decide)
  have k1:¬ (k:Int)≤0:=by omega
  generalize mtx k=T at *;clear h0;go_enter Tryz.func118,Tryz.ntmps118;go_wp2
  go_loopw [0,3] (fun x o wr=>∃ (m f:Nat) (acc:ByteArray),x=.int .i64 m∧o=.string acc∧m≤k∧acc.size+f≤40∧Hid (m < 10 ^ f∧mkS f m acc=mkS 40 k ⟨#[]⟩∧Below w.heap.size w wr)) (fun x _ _=>(intOf x).toNat)
  case atStart=>exact ⟨k,40,⟨#[]⟩,rfl,rfl,Nat.le_refl _,Nat.le_refl 40,P10.o,rfl,Below.refl _ _⟩
  case round =>
   obtain ⟨m,f,acc,rfl,rfl,hm,hf,D⟩:=hrel
   by_cases c:m=0
   ·subst c
    have E2:Hid (mkS 40 k ⟨#[]⟩=acc):=by
     show _=_
     rw[← D.o.2.1,yanz]
    have B:=zaa D.o.2.2;have had:=run_string_add_sum (P:=Tryz.prog) wr ⟨#[109]⟩ acc (by show 1+acc.size≤_;omega);clear D;go_wp2;go_ret;exact ⟨by rw[E.o,E2.o];rfl,B.o⟩
   ·have m0:0 < (m:Int):=by omega
    have hf0:0 < f:=by
     rcases Nat.eq_zero_or_pos f with e | e
     ·exfalso;have:=D.o.1;rw[e] at this;omega
     ·exact e
    obtain ⟨f',rfl⟩:∃ f',f=f'+1:=⟨f - 1,by omega⟩
    have D2:Hid (m / 10 < 10 ^ f'∧mkS f' (m / 10) (⟨#[UInt8.ofNat (48+m % 10)]⟩ ++ acc)=mkS 40 k ⟨#[]⟩):=by
     refine ⟨?_,?_⟩
     ·have:=D.o.1;rw[Nat.pow_succ] at this;omega
     ·rw[← D.o.2.1]
      show _=(if m=0 then acc else _)
      rw[if_neg c]
    have hcv:=run_convert_bytes_arg (P:=Tryz.prog) (wr.alloc (.cells #[.int .u8 (48+(m:Int) % 10)] 5)) 197 5 Tryz.underlying197 Tryz.underlying5 wr.heap.size 0 1 1 [48+(m:Int) % 10] rfl (fun i hi=>by
     obtain rfl:i=0:=by omega
     exact World.cell?_alloc_mark wr #[.int .u8 (48+(m:Int) % 10)] 5 (0,0) 0) 9 Tryz.underlying9
    have eb:strOfNums [48+(m:Int) % 10]=⟨#[UInt8.ofNat (48+m % 10)]⟩:=by
     unfold strOfNums;simp only[List.map_cons,List.map_nil];rw[show (48+(m:Int) % 10).toNat=48+m % 10 by omega]
    rw[eb] at hcv;have had:=run_string_add_sum (P:=Tryz.prog) (wr.alloc (.cells #[.int .u8 (48+(m:Int) % 10)] 5)) ⟨#[UInt8.ofNat (48+m % 10)]⟩ acc (by show 1+acc.size≤_;omega);have B2:Hid (Below w.heap.size w (wr.alloc (.cells #[.int .u8 (48+(m:Int) % 10)] 5))):=D.o.2.2.alloc D.o.2.2.size _
    have sz:((⟨#[UInt8.ofNat (48+m % 10)]⟩:ByteArray) ++ acc).size=1+acc.size:=by
     rw[ByteArray.size_append];rfl
    have SZ:=zaa sz;clear eb D sz;generalize hbb:(⟨#[UInt8.ofNat (48+m % 10)]⟩:ByteArray)=bb at hcv had D2 SZ;clear hbb;go_wp2
    go_roundw
    case rel=>exact ⟨m / 10,f',bb ++ acc,by go_num,rfl,by omega,by have:=SZ.o;omega,D2.o.1,D2.o.2,B2.o⟩
    case measure=>simp[intOf];omega
theorem zci {w:World} {b:Nat} {t:TypeId} {xs:List Value} (h:w.heap[b]?=some (.cells xs.toArray t (0,0))) (j:Nat) (u:Value):(w.setCell ⟨b,j,none⟩ u).heap[b]?=some (.cells (xs.set j u).toArray t (0,0)):=by
 simp[World.setCell,Array.getElem?_modify,h]
theorem zbe {w:World} {b:Nat} {t:TypeId} {xs:List Value} (h:w.heap[b]?=some (.cells xs.toArray t (0,0))) (j:Nat):w.cell? ⟨b,j,none⟩=xs[j]?∧w.frozen? ⟨b,j,none⟩=false:=by
 simp[World.cell?,World.frozen?,h]
structure Ino where
 kind:Int
 size:Int
 links:Int
 m0:Int
 m1:Int
 m2:Int
 m3:Int
 m4:Int
 m5:Int
 m6:Int
 m7:Int
def Ino.map (x:Ino):List Int:=[x.m0,x.m1,x.m2,x.m3,x.m4,x.m5,x.m6,x.m7]
def Ino.v (x:Ino):Value:=.agg #[.int .i64 x.kind,.int .i64 x.size,.int .i64 x.links,.int .i64 x.m0,.int .i64 x.m1,.int .i64 x.m2,.int .i64 x.m3,.int .i64 x.m4,.int .i64 x.m5,.int .i64 x.m6,.int .i64 x.m7]
def Ino.cs (x:Ino):List Value:=[.int .i64 x.kind,.int .i64 x.size,.int .i64 x.links,.int .i64 x.m0,.int .i64 x.m1,.int .i64 x.m2,.int .i64 x.m3,.int .i64 x.m4,.int .i64 x.m5,.int .i64 x.m6,.int .i64 x.m7]
def TS (w:World):Prop:=∃ t fr,w.heap[4]?=some (.cells #[.int .i64 1,.int .i64 24,.int .i64 32] t fr)
theorem TS.lt {w:World} (h:TS w):4 < w.heap.size:=by
 obtain ⟨t,fr,h⟩:=h;exact (Array.getElem?_eq_some_iff.1 h).1
theorem TS.below {w w':World} (h:TS w) (hb:Below w.heap.size w w'):TS w':=by
 have hl:=h.lt;obtain ⟨t,fr,h⟩:=h;exact ⟨t,fr,(hb.block _ hl).trans h⟩
theorem TS.cells {w:World} (h:TS w):w.cell? ⟨4,0,none⟩=some (.int .i64 1)∧w.cell? ⟨4,1,none⟩=some (.int .i64 24)∧w.cell? ⟨4,2,none⟩=some (.int .i64 32):=by
 obtain ⟨t,fr,h⟩:=h;simp[World.cell?,h]
def znj (t a:Int):Bool:=decide ((t=0∧a=0)∨(t=1∧0≤a∧a < 24)∨(t=2∧0≤a∧a < 32))
theorem yadc {t a:Int} (h:(t=0∧a=0)∨(t=1∧0≤a∧a < 24)∨(t=2∧0≤a∧a < 32)):znj t a=true:=decide_eq_true h
theorem zkg {t a:Int} (h:¬ ((t=0∧a=0)∨(t=1∧0≤a∧a < 24)∨(t=2∧0≤a∧a < 32))):znj t a=false:=decide_eq_false h
theorem yafd {t a:Int} (h:znj t a=true):(t=0∧a=0)∨(t=1∧0≤a∧a < 24)∨(t=2∧0≤a∧a < 32):=of_decide_eq_true h
def zjk (e:Int):Bool:=decide (0≤e) && znj (e % 4) (e / 4)
def tieT (e:Int):Int:=if zjk e=true then e % 4 else 0
def tieA (e:Int):Int:=if zjk e=true then e / 4 else 0
def tieC (e:Int):Int:=if zjk e=true then 0 else 3
theorem yaqk {e:Int} (h:zjk e=true):tieT e=e % 4∧tieA e=e / 4∧tieC e=0:=by unfold tieT tieA tieC;rw[if_pos h,if_pos h,if_pos h];exact ⟨rfl,rfl,rfl⟩
theorem zzz {e:Int} (h:zjk e=false):tieT e=0∧tieA e=0∧tieC e=3:=by unfold tieT tieA tieC;rw[h];exact ⟨rfl,rfl,rfl⟩
theorem yahx {n:Int} (h:n < 0):znj (n.tmod 4) (n.tdiv 4)=false:=by
 apply zkg
 obtain ⟨m,rfl⟩:∃ m:Int,n=-m:=⟨-n,by omega⟩
 rw[Int.neg_tmod,Int.neg_tdiv,Int.tmod_eq_emod_of_nonneg (by omega),Int.tdiv_eq_ediv_of_nonneg (by omega)];omega
theorem zpe {a b c d e f:Int} (h:a=b) (k:c=d) (l:e=f):Ending.returned (.tuple #[.int .i64 a,.int .i64 c,.int .i64 e])=.returned (.tuple #[.int .i64 b,.int .i64 d,.int .i64 f]):=by rw[h,k,l]
theorem zud (t a:Int) (w:World) (hT:TS w) (h:znj t a=true):Calls Tryz.prog 221 #[.int .i64 t,.int .i64 a] w fun e w'=>e=.returned (.bool true)∧w'=w:=by
 obtain ⟨x0,x1,x2⟩:=hT.cells;clear hT
 rcases yafd h with ⟨rfl,rfl⟩ | ⟨rfl,h1,h2⟩ | ⟨rfl,h1,h2⟩
 all_goals
  clear h;go_enter Tryz.func221,Tryz.ntmps221;go_wp2_with (go_at_call 48;refine (zaq _ _ _ (by omega)).mono ?_;rintro e w' ⟨rfl,rfl⟩);go_ret;exact ⟨rfl,rfl⟩
theorem znc (t a:Int) (w:World) (hT:TS w) (h:znj t a=false):Calls Tryz.prog 221 #[.int .i64 t,.int .i64 a] w fun e w'=>e=.returned (.bool false)∧w'=w:=by
 obtain ⟨x0,x1,x2⟩:=hT.cells;have h':¬ ((t=0∧a=0)∨(t=1∧0≤a∧a < 24)∨(t=2∧0≤a∧a < 32)):=of_decide_eq_false h;clear hT h
 rcases (show (t=0∧¬ (0≤a∧a < 1))∨(t=1∧¬ (0≤a∧a < 24))∨(t=2∧¬ (0≤a∧a < 32))∨¬ (0≤t∧t < 3) by omega) with ⟨rfl,ha⟩ | ⟨rfl,ha⟩ | ⟨rfl,ha⟩ | ha
 all_goals
  have H:=zaa ha;clear h' ha;go_enter Tryz.func221,Tryz.ntmps221;go_wp2_with (first | (go_at_call 48;refine (zaq _ _ _ (by omega)).mono ?_;rintro e w' ⟨rfl,rfl⟩) | (go_at_call 48;refine (zbc _ _ _ H.o).mono ?_;rintro e w' ⟨rfl,rfl⟩));go_ret;exact ⟨rfl,rfl⟩
theorem zjb (n:Int) (w:World) (hT:TS w) (h0:-9223372036854775808≤n) (h1:n≤9223372036854775807):Calls Tryz.prog 220 #[.int .i64 n] w fun e w'=>e=.returned (.tuple #[.int .i64 (tieT n),.int .i64 (tieA n),.int .i64 (tieC n)])∧w'=w:=by
 have T:=zaa hT;clear hT
 by_cases c0:0≤n
 ·by_cases c:znj (n % 4) (n / 4)=true
  ·have E:=zaa (yaqk (e:=n) (by unfold zjk;rw[c,decide_eq_true c0];rfl));have C:=zaa c;clear c;go_enter Tryz.func220,Tryz.ntmps220;go_wp2_with (go_at_call 221;refine (zud _ _ _ T.o C.o).mono ?_;rintro e w' ⟨rfl,rfl⟩);go_ret3;exact ⟨zpe (by rw[E.o.1]) (by rw[E.o.2.1]) E.o.2.2.symm,rfl⟩
  ·have c':znj (n % 4) (n / 4)=false:=by simpa using c
   have E:=zaa (zzz (e:=n) (by unfold zjk;rw[c'];simp));have C:=zaa c';clear c c';go_enter Tryz.func220,Tryz.ntmps220;go_wp2_with (go_at_call 221;refine (znc _ _ _ T.o C.o).mono ?_;rintro e w' ⟨rfl,rfl⟩);go_ret3;exact ⟨zpe E.o.1.symm E.o.2.1.symm E.o.2.2.symm,rfl⟩
 ·have E:=zaa (zzz (e:=n) (by unfold zjk;rw[decide_eq_false c0];rfl));go_enter Tryz.func220,Tryz.ntmps220;go_wp2_with (go_at_call 221;refine (znc _ _ _ T.o (yahx (by omega))).mono ?_;rintro e w' ⟨rfl,rfl⟩);go_ret3;exact ⟨zpe E.o.1.symm E.o.2.1.symm E.o.2.2.symm,rfl⟩
theorem zfp (n:Int) (w:World) (h0:0≤n) (h1:n≤9223372036854775807):Calls Tryz.prog 198 #[.int .i64 n] w fun e w'=>e=.returned (.tuple #[.int .i64 (n % 4),.int .i64 (n / 4)])∧w'=w:=by
 go_enter Tryz.func198,Tryz.ntmps198;go_wp2;go_ret2;exact ⟨rfl,rfl⟩
theorem zzs (n:Int) (w:World) (h0:n < 0) (h1:-9223372036854775808≤n):Calls Tryz.prog 198 #[.int .i64 n] w fun e w'=>(∃ x y:Int,e=.returned (.tuple #[.int .i64 x,.int .i64 y]))∧w'=w:=by
 go_enter Tryz.func198,Tryz.ntmps198;go_wp2;go_ret2;exact ⟨⟨_,_,rfl⟩,rfl⟩
theorem zen (n:Int) (w:World) (h0:-9223372036854775808≤n) (h1:n≤9223372036854775807):Calls Tryz.prog 180 #[.int .i64 n] w fun e w'=>e=.returned (.bool (zjk n))∧w'=w:=by
 rcases (show n < 0∨n=0∨0 < n by omega) with c | rfl | c
 ·have E:=zaa (show zjk n=false by unfold zjk;rw[decide_eq_false (by omega)];rfl)
  have q0:(n == 0)=false:=by rw[beq_eq_false_iff_ne];omega
  have q1:¬ 0 < n:=by omega
  go_enter Tryz.func180,Tryz.ntmps180;go_wp2_with fail;refine (zzs _ _ c h0).mono ?_;rintro e w' ⟨⟨x,y,rfl⟩,rfl⟩;go_wp2;go_ret;exact ⟨zae E.o.symm,rfl⟩
 ·go_enter Tryz.func180,Tryz.ntmps180;go_wp2;go_ret;exact ⟨zae (by decide),rfl⟩
 ·have q0:(n == 0)=false:=by rw[beq_eq_false_iff_ne];omega
  have E:=zaa (show zjk n=znj (n % 4) (n / 4) by unfold zjk;rw[decide_eq_true (by omega)];rfl)
  rcases (show (n % 4=1∧n / 4 < 24)∨(n % 4=1∧¬ n / 4 < 24)∨(n % 4=2∧n / 4 < 32)∨(n % 4=2∧¬ n / 4 < 32)∨(¬ n % 4=1∧¬ n % 4=2) by omega) with ⟨r,q⟩ | ⟨r,q⟩ | ⟨r,q⟩ | ⟨r,q⟩ | ⟨r,q⟩
  ·have A:=zaa (yadc (t:=n % 4) (a:=n / 4) (by omega))
   have r1:(n % 4 == 1)=true:=by rw[beq_iff_eq];exact r
   clear r;go_enter Tryz.func180,Tryz.ntmps180;go_wp2_with fail;refine (zfp _ _ (by omega) h1).mono ?_;rintro e w' ⟨rfl,rfl⟩;go_wp2;go_ret;exact ⟨zae (by rw[E.o,A.o];first | done | exact decide_eq_false (by omega)),rfl⟩
  ·have A:=zaa (zkg (t:=n % 4) (a:=n / 4) (by omega))
   have r1:(n % 4 == 1)=true:=by rw[beq_iff_eq];exact r
   have r2:(n % 4 == 2)=false:=by rw[beq_eq_false_iff_ne];omega
   clear r;go_enter Tryz.func180,Tryz.ntmps180;go_wp2_with fail;refine (zfp _ _ (by omega) h1).mono ?_;rintro e w' ⟨rfl,rfl⟩;go_wp2;go_ret;exact ⟨zae (by rw[E.o,A.o];first | done | exact decide_eq_false (by omega)),rfl⟩
  ·have A:=zaa (yadc (t:=n % 4) (a:=n / 4) (by omega))
   have r1:(n % 4 == 1)=false:=by rw[beq_eq_false_iff_ne];omega
   have r2:(n % 4 == 2)=true:=by rw[beq_iff_eq];exact r
   clear r;go_enter Tryz.func180,Tryz.ntmps180;go_wp2_with fail;refine (zfp _ _ (by omega) h1).mono ?_;rintro e w' ⟨rfl,rfl⟩;go_wp2;go_ret;exact ⟨zae (by rw[E.o,A.o];first | done | exact decide_eq_false (by omega)),rfl⟩
  ·have A:=zaa (zkg (t:=n % 4) (a:=n / 4) (by omega))
   have r1:(n % 4 == 1)=false:=by rw[beq_eq_false_iff_ne];omega
   have r2:(n % 4 == 2)=true:=by rw[beq_iff_eq];exact r
   clear r;go_enter Tryz.func180,Tryz.ntmps180;go_wp2_with fail;refine (zfp _ _ (by omega) h1).mono ?_;rintro e w' ⟨rfl,rfl⟩;go_wp2;go_ret;exact ⟨zae (by rw[E.o,A.o];first | done | exact decide_eq_false (by omega)),rfl⟩
  ·have A:=zaa (zkg (t:=n % 4) (a:=n / 4) (by omega))
   have r1:(n % 4 == 1)=false:=by rw[beq_eq_false_iff_ne];exact r
   have r2:(n % 4 == 2)=false:=by rw[beq_eq_false_iff_ne];exact q
   clear r q;go_enter Tryz.func180,Tryz.ntmps180;go_wp2_with fail;refine (zfp _ _ (by omega) h1).mono ?_;rintro e w' ⟨rfl,rfl⟩;go_wp2;go_ret;exact ⟨zae (by rw[E.o,A.o];first | done | exact decide_eq_false (by omega)),rfl⟩
end Go.Proofs.YtahiphgmhndgaaaGreatDoor
