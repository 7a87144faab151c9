/- Several texts laid together: WdM, Nm, MkT. -/
import Derived.WalkKit
import Derived.Test.YtbohndgbfbfldaaGreatDoorMem
import Derived.Laws.IdiomStrings
import Derived.Laws.BytesArg
import Derived.Deep.OwnRows
set_option maxRecDepth 100000
set_option maxHeartbeats 4000000
namespace Go.Proofs.YtbohndgbfbfldaaGreatDoor
def zoj (n:Nat):List Nat:=if _h:n=0 then [] else zoj (n / 27) ++ [n % 27]
termination_by n
decreasing_by omega
theorem zvb:zoj 0=[]:=by rw[zoj];simp
theorem zha {n:Nat} (h:0 < n):zoj n=zoj (n / 27) ++ [n % 27]:=by rw[zoj];simp[show n≠0 by omega]
def val (ds:List Nat):Nat:=ds.foldl (fun a d=>27*a+d) 0
theorem zrd (ds:List Nat) (d:Nat):val (ds ++ [d])=27*val ds+d:=by simp[val]
theorem yada {n:Nat} (h:0 < n):1≤(zoj n).length:=by rw[zha h];simp
theorem zza {α:Type} {P:List α→Prop} (h0:P []) (h1:∀ l x,P l→P (l ++ [x])):∀ l,P l:=by
 intro l
 have:∀ n (l:List α),l.length=n→P l:=by
  intro n
  induction n with
  | zero=>intro l hl;rw[List.length_eq_zero_iff.1 hl];exact h0
  | succ n ih =>
   intro l hl
   have hne:l≠[]:=by intro h;subst h;simp at hl
   rw[← List.dropLast_concat_getLast hne];exact h1 _ _ (ih _ (by simp[hl]))
 exact this _ l rfl
theorem yaeg (ds:List Nat):(∀ d∈ds,d < 27)→val ds < 27 ^ ds.length:=by
 refine zza (P:=fun ds=>(∀ d∈ds,d < 27)→val ds < 27 ^ ds.length) (fun _=>by simp[val]) (fun l x ih h=>?_) ds;have hx:=h x (by simp);have:=ih (fun d hd=>h d (by simp[hd]));rw[zrd,List.length_append,List.length_singleton,Nat.pow_succ];omega
structure Dg (n m:Nat) (ds:List Nat):Prop where
 eq:zoj n=zoj m ++ ds
 ok:∀ d∈ds,1≤d∧d < 27
theorem Dg.start (n:Nat):Dg n n []:=⟨by simp,fun d h=>by cases h⟩
theorem Dg.step {n m:Nat} {ds:List Nat} (h:Dg n m ds) (hm:0 < m) (h1:m % 27≠0):Dg n (m / 27) (m % 27 :: ds) :=
 ⟨by rw[h.eq,zha hm];simp,fun d hd=>by
  rcases List.mem_cons.1 hd with rfl | hd
  ·omega
  ·exact h.ok d hd⟩
theorem Dg.zero {n m:Nat} {ds:List Nat} (h:Dg n m ds) (hm:0 < m) (h0:m % 27=0):¬ ∀ d∈zoj n,1≤d:=fun x=>by
 have:=x (m % 27) (by rw[h.eq,zha hm];simp);omega
theorem Dg.many {n m:Nat} {ds:List Nat} (h:Dg n m ds) (hm:0 < m):ds.length < (zoj n).length:=by
 rw[h.eq,zha hm];simp;omega
theorem Dg.done {n:Nat} {ds:List Nat} (h:Dg n 0 ds):zoj n=ds:=by rw[h.eq,zvb];simp
def nmB (s:ByteArray):Bool:=decide (1≤s.size∧s.size≤6∧∀ j (h:j < s.size),97≤s[j].toNat∧s[j].toNat≤122)
theorem zuj {s:ByteArray} (h:s.size < 1):nmB s=false:=decide_eq_false (fun x=>by omega)
theorem zqn {s:ByteArray} (h:6 < s.size):nmB s=false:=decide_eq_false (fun x=>by omega)
theorem zhn {s:ByteArray} {k:Nat} (h:k < s.size) (hb:¬ (97≤s[k].toNat∧s[k].toNat≤122)):nmB s=false:=decide_eq_false (fun x=>hb (x.2.2 k h))
theorem zwl {s:ByteArray} (h0:1≤s.size) (h6:s.size≤6) (h:∀ j (h:j < s.size),97≤s[j].toNat∧s[j].toNat≤122):nmB s=true:=decide_eq_true ⟨h0,h6,h⟩
theorem zzj {s:ByteArray} (h:nmB s=true):1≤s.size∧s.size≤6∧∀ j (h:j < s.size),97≤s[j].toNat∧s[j].toNat≤122:=of_decide_eq_true h
def letD (b:UInt8):Nat:=b.toNat - 96
def ltrs (s:ByteArray):List Nat:=s.data.toList.map letD
def pk (s:ByteArray) (k:Nat):Nat:=val ((ltrs s).take k)
theorem zkr (s:ByteArray):(ltrs s).length=s.size:=by unfold ltrs;rw[List.length_map,Array.length_toList];rfl
theorem ztc (s:ByteArray) (j:Nat) (h:j < s.size):(ltrs s)[j]'(by rw[zkr];exact h)=s[j].toNat - 96:=by
 simp only[ltrs,List.getElem_map,letD,Array.getElem_toList];rfl
theorem yaco (s:ByteArray):pk s 0=0:=by simp[pk,val]
theorem yadd (s:ByteArray) (k:Nat) (h:k < s.size):pk s (k+1)=27*pk s k+(s[k].toNat - 96):=by
 unfold pk;rw[List.take_succ_eq_append_getElem (by rw[zkr];exact h),zrd,ztc s k h]
theorem yafr {s:ByteArray} {k:Nat} (hl:∀ j (h:j < s.size),j < k→97≤s[j].toNat∧s[j].toNat≤122) (h6:k≤6):pk s k < 387420489:=by
 have h1:pk s k < 27 ^ ((ltrs s).take k).length:=by
  unfold pk;apply yaeg;intro d hd;obtain ⟨i,hi,rfl⟩:=List.getElem_of_mem hd;simp only[List.length_take,zkr] at hi;rw[List.getElem_take,ztc s i (by omega)];have:=hl i (by omega) (by omega);omega
 have h2:((ltrs s).take k).length≤6:=by simp only[List.length_take];omega
 have h3:27 ^ ((ltrs s).take k).length≤27 ^ 6:=Nat.pow_le_pow_right (by omega) h2;omega
def zkz (ds:List Nat):ByteArray:=⟨(ds.map fun d=>UInt8.ofNat (96+d)).toArray⟩
def zgo (n:Int):Bool:=decide (0 < n∧(∀ d∈zoj n.toNat,1≤d)∧(zoj n.toNat).length≤6)
def zsy (n:Int):ByteArray:=if zgo n=true then zkz (zoj n.toNat) else ⟨#[]⟩
def unpC (n:Int):Int:=if zgo n=true then 0 else 3
def zmc (s:ByteArray):Int:=if nmB s=true then (pk s s.size:Nat) else 0
def zjr (s:ByteArray):Int:=if 65536 < s.size then 2 else if nmB s=true then 0 else 12
theorem zpn {n:Int} (h:zgo n=false):zsy n=⟨#[]⟩∧unpC n=3:=by unfold zsy unpC;rw[h];exact ⟨rfl,rfl⟩
theorem yacd {n:Int} (h:¬ 0 < n):zgo n=false:=decide_eq_false (fun x=>h x.1)
theorem zyw {n:Nat} {m:Nat} {ds:List Nat} (h:Dg n m ds) (hm:0 < m) (h0:m % 27=0):zgo (n:Int)=false:=decide_eq_false (fun x=>h.zero hm h0 x.2.1)
theorem zyo {n:Nat} {m:Nat} {ds:List Nat} (h:Dg n m ds) (hm:0 < m) (h6:6≤ds.length):zgo (n:Int)=false:=decide_eq_false (fun x=>by have:=h.many hm;have:=x.2.2;simp only[Int.toNat_natCast] at this;omega)
theorem zxg {n:Nat} {ds:List Nat} (h:Dg n 0 ds) (hn:0 < n) (h6:ds.length≤6):zsy (n:Int)=zkz ds∧unpC (n:Int)=0:=by
 have g:zgo (n:Int)=true:=decide_eq_true ⟨by omega,by rw[Int.toNat_natCast,h.done];exact fun d x=>(h.ok d x).1,by rw[Int.toNat_natCast,h.done];exact h6⟩;unfold zsy unpC;rw[if_pos g,if_pos g,Int.toNat_natCast,h.done];exact ⟨rfl,rfl⟩
end Go.Proofs.YtbohndgbfbfldaaGreatDoor

namespace Go.Proofs.YtbohndgbfbfldaaGreatDoor
open Go.RowKit
theorem zqf {a b:ByteArray} {c d:Int} (h:a=b) (k:c=d):Ending.returned (.tuple #[.string a,.int .i64 c])=.returned (.tuple #[.string b,.int .i64 d]):=by rw[h,k]
theorem zrf (n:Int) (w:World) (h:1≤n∧n≤6):Calls Tryz.prog 80 #[.int .i64 n,.int .i64 1,.int .i64 6] w fun e w'=>e=.returned (.bool true)∧w'=w:=by
 obtain ⟨h1,h2⟩:=h;go_enter Tryz.func80,Tryz.ntmps80;go_wp2;go_ret;exact ⟨rfl,rfl⟩
theorem zub (n:Int) (w:World) (h:¬ (1≤n∧n≤6)):Calls Tryz.prog 80 #[.int .i64 n,.int .i64 1,.int .i64 6] w fun e w'=>e=.returned (.bool false)∧w'=w:=by
 rcases (show ¬ 1≤n∨(1≤n∧¬ n≤6) by omega) with h1 | ⟨h1,h2⟩
 all_goals
  clear h;go_enter Tryz.func80,Tryz.ntmps80;go_wp2;go_ret;exact ⟨rfl,rfl⟩
theorem yadb (s:ByteArray) (w:World) (hs:s.size≤maxLen):Calls Tryz.prog 171 #[.string s] w fun e w'=>e=.returned (.bool (nmB s))∧w'=w:=by
 unfold maxLen at hs
 by_cases c:1≤s.size∧s.size≤6
 ·have c':1≤(s.size:Int)∧(s.size:Int)≤6:=by omega
  have C:=zaa c';obtain ⟨c1,c2⟩:=c;clear c';go_enter Tryz.func171,Tryz.ntmps171;go_wp2_with (go_at_call 80;refine (zrf _ _ C.o).mono ?_;rintro e w' ⟨rfl,rfl⟩)
  go_loop [3] (fun i=>∃ k:Nat,k≤s.size∧i=.int .i64 k∧Hid (∀ j (h:j < s.size),j < k→97≤s[j].toNat∧s[j].toNat≤122)) (fun i=>s.size - (intOf i).toNat)
  case atStart=>exact ⟨0,by omega,rfl,fun j h b=>absurd b (by omega)⟩
  case round =>
   obtain ⟨k,hk,rfl,H⟩:=hrel
   by_cases hlt:k < s.size
   ·rcases (show ((s[k].toNat:Int) < 97)∨(¬ ((s[k].toNat:Int) < 97)∧(122:Int) < (s[k].toNat:Int))∨(¬ ((s[k].toNat:Int) < 97)∧¬ (122:Int) < (s[k].toNat:Int)) by omega) with d | ⟨d,d'⟩ | ⟨d,d'⟩
    ·have E:=zaa (zhn hlt (by omega));go_wp2;go_ret;exact ⟨zad E.o.symm,rfl⟩
    ·have E:=zaa (zhn hlt (by omega));go_wp2;go_ret;exact ⟨zad E.o.symm,rfl⟩
    ·go_wp2
     go_round
     case rel =>
      refine ⟨k+1,by omega,by go_num,fun j h b=>?_⟩
      by_cases e:j=k
      ·subst e;omega
      ·exact H.o j h (by omega)
     case measure=>simp[intOf];omega
   ·have E:=zaa (zwl c1 c2 (fun j h=>H.o j h (by omega)));go_wp2;go_ret;exact ⟨zad E.o.symm,rfl⟩
 ·have c':¬ (1≤(s.size:Int)∧(s.size:Int)≤6):=by omega
  have C:=zaa c';have E:=zaa (show nmB s=false from decide_eq_false (fun x=>c ⟨x.1,x.2.1⟩));clear c c';go_enter Tryz.func171,Tryz.ntmps171;go_wp2_with (go_at_call 80;refine (zub _ _ C.o).mono ?_;rintro e w' ⟨rfl,rfl⟩);go_ret;exact ⟨zad E.o.symm,rfl⟩
theorem ztr {s:ByteArray} (h:65536 < s.size):zmc s=0∧zjr s=2:=by
 unfold zmc zjr;rw[if_neg (by rw[zqn (by omega)];simp),if_pos h];exact ⟨rfl,rfl⟩
theorem zhc {s:ByteArray} (h:¬ 65536 < s.size) (h2:nmB s=false):zmc s=0∧zjr s=12:=by
 unfold zmc zjr;rw[h2,if_neg h];exact ⟨rfl,rfl⟩
theorem zxv {s:ByteArray} (h:nmB s=true):zmc s=((pk s s.size:Nat):Int)∧zjr s=0:=by
 unfold zmc zjr;have:=(zzj h).2.1;rw[if_pos h,if_neg (by omega),if_pos h];exact ⟨rfl,rfl⟩
theorem zgs (s:ByteArray) (w:World) (hs:s.size≤maxLen):Calls Tryz.prog 216 #[.string s] w fun e w'=>e=.returned (.tuple #[.int .i64 (zmc s),.int .i64 (zjr s)])∧Below w.heap.size w w':=by
 unfold maxLen at hs
 by_cases c0:65536 < s.size
 ·have E:=zaa (ztr c0);go_enter Tryz.func216,Tryz.ntmps216;go_wp2;go_ret2;exact ⟨zbn E.o.1.symm E.o.2.symm,Below.refl _ _⟩
 by_cases c1:s.size < 1
 ·have E:=zaa (zhc c0 (zuj c1));go_enter Tryz.func216,Tryz.ntmps216;go_wp2;go_ret2;exact ⟨zbn E.o.1.symm E.o.2.symm,Below.refl _ _⟩
 by_cases c2:6 < s.size
 ·have E:=zaa (zhc c0 (zqn c2));go_enter Tryz.func216,Tryz.ntmps216;go_wp2;go_ret2;exact ⟨zbn E.o.1.symm E.o.2.symm,Below.refl _ _⟩
 have hconv:=run_bytes_of_string (P:=Tryz.prog) w 9 203 5 s Tryz.underlying9 Tryz.underlying203 Tryz.underlying5;generalize hcap:grownCap w s.size 0 5=cap at hconv
 have CELL:Hid (∀ k (h:k < s.size),(w.drew.alloc (.cells (bytesRow s cap) 5 ((bytesRow s cap).size,(bytesRow s cap).size+1))).cell? ⟨w.heap.size,k,none⟩=some (.int .u8 (s[k].toNat:Int))):=fun k h=>by
  have e:=World.cell?_alloc_mark w.drew (bytesRow s cap) 5 ((bytesRow s cap).size,(bytesRow s cap).size+1) k;rw[bytesRow_at s cap k h] at e;exact e
 have BB:Hid (Below w.heap.size w (w.drew.alloc (.cells (bytesRow s cap) 5 ((bytesRow s cap).size,(bytesRow s cap).size+1)))):=((Below.refl _ _).drew).alloc (Nat.le_refl _) _;clear hcap;generalize w.drew.alloc (.cells (bytesRow s cap) 5 ((bytesRow s cap).size,(bytesRow s cap).size+1))=w1 at hconv CELL BB;go_enter Tryz.func216,Tryz.ntmps216;go_wp2
 go_loop [4,6,21] (fun n _ i=>∃ k:Nat,k≤s.size∧i=.int .i64 k∧n=.int .i64 ((pk s k:Nat):Int)∧Hid (∀ j (h:j < s.size),j < k→97≤s[j].toNat∧s[j].toNat≤122)) (fun _ _ i=>s.size - (intOf i).toNat)
 case atStart=>exact ⟨0,by omega,rfl,by rw[yaco];rfl,fun j h b=>absurd b (by omega)⟩
 case round =>
  obtain ⟨k,hk,rfl,rfl,H⟩:=hrel
  by_cases hlt:k < s.size
  ·have x0:=CELL.o k hlt;have bd:pk s k < 387420489:=yafr H.o (by omega);have SU:=zaa (yadd s k hlt);have b255:s[k].toNat < 256:=s[k].toNat_lt;have NO:=zaa (zhn (s:=s) hlt)
   have NX:Hid (97≤s[k].toNat∧s[k].toNat≤122→∀ j (h:j < s.size),j < k+1→97≤s[j].toNat∧s[j].toNat≤122):=fun hx j h b=>by
    by_cases e:j=k
    ·subst e;exact hx
    ·exact H.o j h (by omega)
   generalize s[k].toNat=x at x0 SU b255 NO NX
   rcases (show ((x:Int) < 97)∨(¬ ((x:Int) < 97)∧(122:Int) < (x:Int))∨(¬ ((x:Int) < 97)∧¬ (122:Int) < (x:Int)) by omega) with d | ⟨d,d'⟩ | ⟨d,d'⟩
   ·have E:=zaa (zhc c0 (NO.o (by omega)));go_wp2;go_ret2;exact ⟨zbn E.o.1.symm E.o.2.symm,BB.o⟩
   ·have E:=zaa (zhc c0 (NO.o (by omega)));go_wp2;go_ret2;exact ⟨zbn E.o.1.symm E.o.2.symm,BB.o⟩
   ·go_wp2
    go_round
    case rel=>exact ⟨k+1,by omega,by go_num,by rw[SU.o];congr 1;omega,NX.o (by omega)⟩
    case measure=>simp[intOf];omega
  ·have ek:k=s.size:=by omega
   subst ek;have E:=zaa (zxv (zwl (s:=s) (by omega) (by omega) (fun j h=>H.o j h h)));go_wp2;go_ret2;exact ⟨zbn E.o.1.symm E.o.2.symm,BB.o⟩
def mkS:Nat→Nat→ByteArray→ByteArray
 | 0,_,acc=>acc
 | f+1,k,acc=>if k=0 then acc else mkS f (k / 10) (⟨#[UInt8.ofNat (48+k % 10)]⟩ ++ acc)
theorem zxe:∀ (f:Nat) (acc:ByteArray),mkS f 0 acc=acc
 | 0,_=>rfl
 | f+1,acc=>by unfold mkS;rw[if_pos rfl]
def mtx (k:Nat):ByteArray:=if k=0 then ⟨#[109,48]⟩ else ⟨#[109]⟩ ++ mkS 40 k ⟨#[]⟩
theorem zdb (k:Nat) (w:World) (hk:k≤4611686018427387904) :
  Calls Tryz.prog 113 #[.int .i64 (k:Int)] w fun e w'=>e=.returned (.string (mtx k))∧Below w.heap.size w w':=by
 by_cases h0:k=0
 ·subst h0;rw[show mtx 0=⟨#[109,48]⟩ from rfl];go_enter Tryz.func113,Tryz.ntmps113;go_wp2;go_ret;exact ⟨rfl,Below.refl _ _⟩
 ·have E:=zaa (show mtx k=⟨#[109]⟩ ++ mkS 40 k ⟨#[]⟩ from if_neg h0);have P10:Hid (k < 10 ^ 40):=Nat.lt_of_le_of_lt hk (by decide)
  have k1:¬ (k:Int)≤0:=by omega
  generalize mtx k=T at *;clear h0;go_enter Tryz.func113,Tryz.ntmps113;go_wp2
  go_loopw [0,3] (fun x o wr=>∃ (m f:Nat) (acc:ByteArray),x=.int .i64 m∧o=.string acc∧m≤k∧acc.size+f≤40∧Hid (m < 10 ^ f∧mkS f m acc=mkS 40 k ⟨#[]⟩∧Below w.heap.size w wr)) (fun x _ _=>(intOf x).toNat)
  case atStart=>exact ⟨k,40,⟨#[]⟩,rfl,rfl,Nat.le_refl _,Nat.le_refl 40,P10.o,rfl,Below.refl _ _⟩
  case round =>
   obtain ⟨m,f,acc,rfl,rfl,hm,hf,D⟩:=hrel
   by_cases c:m=0
   ·subst c
    have E2:Hid (mkS 40 k ⟨#[]⟩=acc):=by
     show _=_
     rw[← D.o.2.1,zxe]
    have B:=zaa D.o.2.2;have had:=run_string_add_sum (P:=Tryz.prog) wr ⟨#[109]⟩ acc (by show 1+acc.size≤_;omega);clear D;go_wp2;go_ret;exact ⟨by rw[E.o,E2.o];rfl,B.o⟩
   ·have m0:0 < (m:Int):=by omega
    have hf0:0 < f:=by
     rcases Nat.eq_zero_or_pos f with e | e
     ·exfalso;have:=D.o.1;rw[e] at this;omega
     ·exact e
    obtain ⟨f',rfl⟩:∃ f',f=f'+1:=⟨f - 1,by omega⟩
    have D2:Hid (m / 10 < 10 ^ f'∧mkS f' (m / 10) (⟨#[UInt8.ofNat (48+m % 10)]⟩ ++ acc)=mkS 40 k ⟨#[]⟩):=by
     refine ⟨?_,?_⟩
     ·have:=D.o.1;rw[Nat.pow_succ] at this;omega
     ·rw[← D.o.2.1]
      show _=(if m=0 then acc else _)
      rw[if_neg c]
    have hcv:=run_convert_bytes_arg (P:=Tryz.prog) (wr.alloc (.cells #[.int .u8 (48+(m:Int) % 10)] 5)) 203 5 Tryz.underlying203 Tryz.underlying5 wr.heap.size 0 1 1 [48+(m:Int) % 10] rfl (fun i hi=>by
     obtain rfl:i=0:=by omega
     exact World.cell?_alloc_mark wr #[.int .u8 (48+(m:Int) % 10)] 5 (0,0) 0) 9 Tryz.underlying9
    have eb:strOfNums [48+(m:Int) % 10]=⟨#[UInt8.ofNat (48+m % 10)]⟩:=by
     unfold strOfNums;simp only[List.map_cons,List.map_nil];rw[show (48+(m:Int) % 10).toNat=48+m % 10 by omega]
    rw[eb] at hcv;have had:=run_string_add_sum (P:=Tryz.prog) (wr.alloc (.cells #[.int .u8 (48+(m:Int) % 10)] 5)) ⟨#[UInt8.ofNat (48+m % 10)]⟩ acc (by show 1+acc.size≤_;omega);have B2:Hid (Below w.heap.size w (wr.alloc (.cells #[.int .u8 (48+(m:Int) % 10)] 5))):=D.o.2.2.alloc D.o.2.2.size _
    have sz:((⟨#[UInt8.ofNat (48+m % 10)]⟩:ByteArray) ++ acc).size=1+acc.size:=by
     rw[ByteArray.size_append];rfl
    have SZ:=zaa sz;clear eb D sz;generalize hbb:(⟨#[UInt8.ofNat (48+m % 10)]⟩:ByteArray)=bb at hcv had D2 SZ;clear hbb;go_wp2
    go_roundw
    case rel=>exact ⟨m / 10,f',bb ++ acc,by go_num,rfl,by omega,by have:=SZ.o;omega,D2.o.1,D2.o.2,B2.o⟩
    case measure=>simp[intOf];omega
end Go.Proofs.YtbohndgbfbfldaaGreatDoor
