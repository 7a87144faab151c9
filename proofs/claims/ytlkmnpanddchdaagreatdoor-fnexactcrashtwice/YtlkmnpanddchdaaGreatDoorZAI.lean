/- Several texts laid together: Nm, MkT, ImA, Wt, ImB, UpL, ImD, ImH, ImE. -/
import Derived.Test.YtlkmnpanddchdaaGreatDoorZAA
import Derived.Test.YtlkmnpanddchdaaGreatDoorZAH
import Derived.Laws.IdiomStrings
import Derived.Laws.BytesArg
import Derived.Deep.OwnRows
import Derived.Test.YtlkmnpanddchdaaGreatDoorZAD
import Derived.BigQuiet
import Derived.Deep.QuietTactic
import Derived.Test.YtlkmnpanddchdaaGreatDoorZAB
import Derived.Deep.RegionHeld3
import Derived.Laws.OwnMore
import Derived.Deep.RegionWith
namespace Go.Proofs.YtlkmnpanddchdaaGreatDoor
open Go.RowKit
theorem yaea {a b:ByteArray} {c d:Int} (h:a = b) (k:c = d):Ending.returned (.tuple #[.string a,.int .i64 c]) = .returned (.tuple #[.string b,.int .i64 d]):=by rw [h,k]
theorem yari {a b:ByteArray} {c d:Bool} (h:a = b) (k:c = d):Ending.returned (.tuple #[.string a,.bool c]) = .returned (.tuple #[.string b,.bool d]):=by rw [h,k]
theorem yafv (n:Int) (w:World) (h:1 ≤ n ∧ n ≤ 6):Calls Tryz.prog 61 #[.int .i64 n,.int .i64 1,.int .i64 6] w fun e w' => e = .returned (.bool true) ∧ w' = w:=by
 obtain ⟨h1,h2⟩:=h
 go_enter Tryz.func61,Tryz.ntmps61
 go_wp2
 go_ret
 exact ⟨rfl,rfl⟩
theorem yakk (n:Int) (w:World) (h:¬ (1 ≤ n ∧ n ≤ 6)):Calls Tryz.prog 61 #[.int .i64 n,.int .i64 1,.int .i64 6] w fun e w' => e = .returned (.bool false) ∧ w' = w:=by
 rcases (show ¬ 1 ≤ n ∨ (1 ≤ n ∧ ¬ n ≤ 6) by omega) with h1 | ⟨h1,h2⟩
 all_goals
  clear h
  go_enter Tryz.func61,Tryz.ntmps61
  go_wp2
  go_ret
  exact ⟨rfl,rfl⟩
set_option maxHeartbeats 1000000 in
theorem zfs (s:ByteArray) (w:World) (hs:s.size ≤ maxLen):Calls Tryz.prog 190 #[.string s] w fun e w' => e = .returned (.bool (nmB s)) ∧ w' = w:=by
 unfold maxLen at hs
 by_cases c:1 ≤ s.size ∧ s.size ≤ 6
 ·have c':1 ≤ (s.size:Int) ∧ (s.size:Int) ≤ 6:=by omega
  have C:=zaa c'
  obtain ⟨c1,c2⟩:=c
  clear c'
  go_enter Tryz.func190,Tryz.ntmps190
  go_wp2_with (go_at_call 61; refine (yafv _ _ C.out).mono ?_; rintro e w' ⟨rfl,rfl⟩)
  go_loop [3] (fun i => ∃ k:Nat,k ≤ s.size ∧ i = .int .i64 k ∧ Hid (∀ j (h:j < s.size),j < k → 97 ≤ s[j].toNat ∧ s[j].toNat ≤ 122)) (fun i => s.size - (intOf i).toNat)
  case atStart => exact ⟨0,by omega,rfl,fun j h b => absurd b (by omega)⟩
  case round =>
   obtain ⟨k,hk,rfl,H⟩:=hrel
   by_cases hlt:k < s.size
   ·rcases (show ((s[k].toNat:Int) < 97) ∨ (¬ ((s[k].toNat:Int) < 97) ∧ (122:Int) < (s[k].toNat:Int)) ∨ (¬ ((s[k].toNat:Int) < 97) ∧ ¬ (122:Int) < (s[k].toNat:Int)) by omega) with d | ⟨d,d'⟩ | ⟨d,d'⟩
    ·have E:=zaa (zqj hlt (by omega))
     go_wp2
     go_ret
     exact ⟨zae E.out.symm,rfl⟩
    ·have E:=zaa (zqj hlt (by omega))
     go_wp2
     go_ret
     exact ⟨zae E.out.symm,rfl⟩
    ·go_wp2
     go_round
     case rel =>
      refine ⟨k + 1,by omega,by go_num,fun j h b => ?_⟩
      by_cases e:j = k
      ·subst e; omega
      ·exact H.out j h (by omega)
     case measure => simp [intOf]; omega
   ·have E:=zaa (yaaw c1 c2 (fun j h => H.out j h (by omega)))
    go_wp2
    go_ret
    exact ⟨zae E.out.symm,rfl⟩
 ·have c':¬ (1 ≤ (s.size:Int) ∧ (s.size:Int) ≤ 6):=by omega
  have C:=zaa c'
  have E:=zaa (show nmB s = false from decide_eq_false (fun x => c ⟨x.1,x.2.1⟩))
  clear c c'
  go_enter Tryz.func190,Tryz.ntmps190
  go_wp2_with (go_at_call 61; refine (yakk _ _ C.out).mono ?_; rintro e w' ⟨rfl,rfl⟩)
  go_ret
  exact ⟨zae E.out.symm,rfl⟩
theorem yale {s:ByteArray} (h:65536 < s.size):zvy s = 0 ∧ zqz s = 2:=by
 unfold zvy zqz
 rw [if_neg (by rw [zvd (by omega)]; simp),if_pos h]
 exact ⟨rfl,rfl⟩
theorem zok {s:ByteArray} (h:¬ 65536 < s.size) (h2:nmB s = false):zvy s = 0 ∧ zqz s = 12:=by
 unfold zvy zqz
 rw [h2,if_neg h]
 exact ⟨rfl,rfl⟩
theorem yaoo {s:ByteArray} (h:nmB s = true):zvy s = ((pk s s.size:Nat):Int) ∧ zqz s = 0:=by
 unfold zvy zqz
 have:=(yaqj h).2.1
 rw [if_pos h,if_neg (by omega),if_pos h]
 exact ⟨rfl,rfl⟩
set_option maxRecDepth 100000 in
set_option maxHeartbeats 4000000 in
theorem znz (s:ByteArray) (w:World) (hs:s.size ≤ maxLen):Calls Tryz.prog 218 #[.string s] w fun e w' => e = .returned (.tuple #[.int .i64 (zvy s),.int .i64 (zqz s)]) ∧ Below w.heap.size w w':=by
 unfold maxLen at hs
 by_cases c0:65536 < s.size
 ·have E:=zaa (yale c0)
  go_enter Tryz.func218,Tryz.ntmps218
  go_wp2
  go_ret2
  exact ⟨zmo E.out.1.symm E.out.2.symm,Below.refl _ _⟩
 by_cases c1:s.size < 1
 ·have E:=zaa (zok c0 (zyz c1))
  go_enter Tryz.func218,Tryz.ntmps218
  go_wp2
  go_ret2
  exact ⟨zmo E.out.1.symm E.out.2.symm,Below.refl _ _⟩
 by_cases c2:6 < s.size
 ·have E:=zaa (zok c0 (zvd c2))
  go_enter Tryz.func218,Tryz.ntmps218
  go_wp2
  go_ret2
  exact ⟨zmo E.out.1.symm E.out.2.symm,Below.refl _ _⟩
 have hconv:=run_bytes_of_string (P:=Tryz.prog) w 9 204 5 s Tryz.underlying9 Tryz.underlying204 Tryz.underlying5
 generalize hcap:grownCap w s.size 0 5 = cap at hconv
 have CELL:Hid (∀ k (h:k < s.size),(w.drew.alloc (.cells (bytesRow s cap) 5 ((bytesRow s cap).size,(bytesRow s cap).size + 1))).cell? ⟨w.heap.size,k,none⟩ = some (.int .u8 (s[k].toNat:Int))):=fun k h => by
  have e:=World.cell?_alloc_mark w.drew (bytesRow s cap) 5 ((bytesRow s cap).size,(bytesRow s cap).size + 1) k
  rw [bytesRow_at s cap k h] at e
  exact e
 have BB:Hid (Below w.heap.size w (w.drew.alloc (.cells (bytesRow s cap) 5 ((bytesRow s cap).size,(bytesRow s cap).size + 1)))):=((Below.refl _ _).drew).alloc (Nat.le_refl _) _
 clear hcap
 generalize w.drew.alloc (.cells (bytesRow s cap) 5 ((bytesRow s cap).size,(bytesRow s cap).size + 1)) = w1 at hconv CELL BB
 go_enter Tryz.func218,Tryz.ntmps218
 go_wp2
 go_loop [4,6,21] (fun n _ i => ∃ k:Nat,k ≤ s.size ∧ i = .int .i64 k ∧ n = .int .i64 ((pk s k:Nat):Int) ∧ Hid (∀ j (h:j < s.size),j < k → 97 ≤ s[j].toNat ∧ s[j].toNat ≤ 122)) (fun _ _ i => s.size - (intOf i).toNat)
 case atStart => exact ⟨0,by omega,rfl,by rw [yatc]; rfl,fun j h b => absurd b (by omega)⟩
 case round =>
  obtain ⟨k,hk,rfl,rfl,H⟩:=hrel
  by_cases hlt:k < s.size
  ·have x0:=CELL.out k hlt
   have bd:pk s k < 387420489:=yawb H.out (by omega)
   have SU:=zaa (yasj s k hlt)
   have b255:s[k].toNat < 256:=s[k].toNat_lt
   have NO:=zaa (zqj (s:=s) hlt)
   have NX:Hid (97 ≤ s[k].toNat ∧ s[k].toNat ≤ 122 → ∀ j (h:j < s.size),j < k + 1 → 97 ≤ s[j].toNat ∧ s[j].toNat ≤ 122):=fun hx j h b => by
    by_cases e:j = k
    ·subst e; exact hx
    ·exact H.out j h (by omega)
   generalize s[k].toNat = x at x0 SU b255 NO NX
   rcases (show ((x:Int) < 97) ∨ (¬ ((x:Int) < 97) ∧ (122:Int) < (x:Int)) ∨ (¬ ((x:Int) < 97) ∧ ¬ (122:Int) < (x:Int)) by omega) with d | ⟨d,d'⟩ | ⟨d,d'⟩
   ·have E:=zaa (zok c0 (NO.out (by omega)))
    go_wp2
    go_ret2
    exact ⟨zmo E.out.1.symm E.out.2.symm,BB.out⟩
   ·have E:=zaa (zok c0 (NO.out (by omega)))
    go_wp2
    go_ret2
    exact ⟨zmo E.out.1.symm E.out.2.symm,BB.out⟩
   ·go_wp2
    go_round
    case rel => exact ⟨k + 1,by omega,by go_num,by rw [SU.out]; congr 1; omega,NX.out (by omega)⟩
    case measure => simp [intOf]; omega
  ·have ek:k = s.size:=by omega
   subst ek
   have E:=zaa (yaoo (yaaw (s:=s) (by omega) (by omega) (fun j h => H.out j h h)))
   go_wp2
   go_ret2
   exact ⟨zmo E.out.1.symm E.out.2.symm,BB.out⟩
def mkS:Nat → Nat → ByteArray → ByteArray
 | 0,_,acc => acc
 | f + 1,k,acc => if k = 0 then acc else mkS f (k / 10) (⟨#[UInt8.ofNat (48 + k % 10)]⟩ ++ acc)
theorem yaow:∀ (f:Nat) (acc:ByteArray),mkS f 0 acc = acc
 | 0,_ => rfl
 | f + 1,acc => by unfold mkS; rw [if_pos rfl]
def mtx (k:Nat):ByteArray:=if k = 0 then ⟨#[109,48]⟩ else ⟨#[109]⟩ ++ mkS 40 k ⟨#[]⟩
set_option maxRecDepth 100000 in
set_option maxHeartbeats 4000000 in
theorem zms (k:Nat) (w:World) (hk:k ≤ 4611686018427387904) :
  Calls Tryz.prog 130 #[.int .i64 (k:Int)] w fun e w' => e = .returned (.string (mtx k)) ∧ Below w.heap.size w w':=by
 by_cases h0:k = 0
 ·subst h0
  rw [show mtx 0 = ⟨#[109,48]⟩ from rfl]
  go_enter Tryz.func130,Tryz.ntmps130
  go_wp2
  go_ret
  exact ⟨rfl,Below.refl _ _⟩
 ·have E:=zaa (show mtx k = ⟨#[109]⟩ ++ mkS 40 k ⟨#[]⟩ from if_neg h0)
  have P10:Hid (k < 10 ^ 40):=Nat.lt_of_le_of_lt hk (by decide)
  have k1:¬ (k:Int) ≤ 0:=by omega
  generalize mtx k = T at *
  clear h0
  go_enter Tryz.func130,Tryz.ntmps130
  go_wp2
  go_loopw [0,3] (fun x o wr => ∃ (m f:Nat) (acc:ByteArray),x = .int .i64 m ∧ o = .string acc ∧ m ≤ k ∧ acc.size + f ≤ 40 ∧ Hid (m < 10 ^ f ∧ mkS f m acc = mkS 40 k ⟨#[]⟩ ∧ Below w.heap.size w wr)) (fun x _ _ => (intOf x).toNat)
  case atStart => exact ⟨k,40,⟨#[]⟩,rfl,rfl,Nat.le_refl _,Nat.le_refl 40,P10.out,rfl,Below.refl _ _⟩
  case round =>
   obtain ⟨m,f,acc,rfl,rfl,hm,hf,D⟩:=hrel
   by_cases c:m = 0
   ·subst c
    have E2:Hid (mkS 40 k ⟨#[]⟩ = acc):=by
     show _ = _
     rw [← D.out.2.1,yaow]
    have B:=zaa D.out.2.2
    have had:=run_string_add_sum (P:=Tryz.prog) wr ⟨#[109]⟩ acc (by show 1 + acc.size ≤ _; omega)
    clear D
    go_wp2
    go_ret
    exact ⟨by rw [E.out,E2.out]; rfl,B.out⟩
   ·have m0:0 < (m:Int):=by omega
    have hf0:0 < f:=by
     rcases Nat.eq_zero_or_pos f with e | e
     ·exfalso
      have:=D.out.1
      rw [e] at this
      omega
     ·exact e
    obtain ⟨f',rfl⟩:∃ f',f = f' + 1:=⟨f - 1,by omega⟩
    have D2:Hid (m / 10 < 10 ^ f' ∧ mkS f' (m / 10) (⟨#[UInt8.ofNat (48 + m % 10)]⟩ ++ acc) = mkS 40 k ⟨#[]⟩):=by
     refine ⟨?_,?_⟩
     ·have:=D.out.1
      rw [Nat.pow_succ] at this
      omega
     ·rw [← D.out.2.1]
      show _ = (if m = 0 then acc else _)
      rw [if_neg c]
    have hcv:=run_convert_bytes_arg (P:=Tryz.prog) (wr.alloc (.cells #[.int .u8 (48 + (m:Int) % 10)] 5)) 204 5 Tryz.underlying204 Tryz.underlying5 wr.heap.size 0 1 1 [48 + (m:Int) % 10] rfl (fun i hi => by
     obtain rfl:i = 0:=by omega
     exact World.cell?_alloc_mark wr #[.int .u8 (48 + (m:Int) % 10)] 5 (0,0) 0) 9 Tryz.underlying9
    have eb:strOfNums [48 + (m:Int) % 10] = ⟨#[UInt8.ofNat (48 + m % 10)]⟩:=by
     unfold strOfNums
     simp only [List.map_cons,List.map_nil]
     rw [show (48 + (m:Int) % 10).toNat = 48 + m % 10 by omega]
    rw [eb] at hcv
    have had:=run_string_add_sum (P:=Tryz.prog) (wr.alloc (.cells #[.int .u8 (48 + (m:Int) % 10)] 5)) ⟨#[UInt8.ofNat (48 + m % 10)]⟩ acc (by show 1 + acc.size ≤ _; omega)
    have B2:Hid (Below w.heap.size w (wr.alloc (.cells #[.int .u8 (48 + (m:Int) % 10)] 5))):=D.out.2.2.alloc D.out.2.2.size _
    have sz:((⟨#[UInt8.ofNat (48 + m % 10)]⟩:ByteArray) ++ acc).size = 1 + acc.size:=by
     rw [ByteArray.size_append]; rfl
    have SZ:=zaa sz
    clear eb D sz
    generalize hbb:(⟨#[UInt8.ofNat (48 + m % 10)]⟩:ByteArray) = bb at hcv had D2 SZ
    clear hbb
    go_wp2
    go_roundw
    case rel => exact ⟨m / 10,f',bb ++ acc,by go_num,rfl,by omega,by have:=SZ.out; omega,D2.out.1,D2.out.2,B2.out⟩
    case measure => simp [intOf]; omega
theorem zcg {w:World} {b:Nat} {t:TypeId} {xs:List Value} (h:w.heap[b]? = some (.cells xs.toArray t (0,0))) (j:Nat) (u:Value):(w.setCell ⟨b,j,none⟩ u).heap[b]? = some (.cells (xs.set j u).toArray t (0,0)):=by
 simp [World.setCell,Array.getElem?_modify,h]
theorem zbe {w:World} {b:Nat} {t:TypeId} {xs:List Value} (h:w.heap[b]? = some (.cells xs.toArray t (0,0))) (j:Nat):w.cell? ⟨b,j,none⟩ = xs[j]? ∧ w.frozen? ⟨b,j,none⟩ = false:=by
 simp [World.cell?,World.frozen?,h]
structure Ino where
 kind:Int
 size:Int
 links:Int
 m0:Int
 m1:Int
 m2:Int
 m3:Int
 m4:Int
 m5:Int
 m6:Int
 m7:Int
def Ino.map (x:Ino):List Int:=[x.m0,x.m1,x.m2,x.m3,x.m4,x.m5,x.m6,x.m7]
def Ino.v (x:Ino):Value:=.agg #[.int .i64 x.kind,.int .i64 x.size,.int .i64 x.links,.int .i64 x.m0,.int .i64 x.m1,.int .i64 x.m2,.int .i64 x.m3,.int .i64 x.m4,.int .i64 x.m5,.int .i64 x.m6,.int .i64 x.m7]
def Ino.cs (x:Ino):List Value:=[.int .i64 x.kind,.int .i64 x.size,.int .i64 x.links,.int .i64 x.m0,.int .i64 x.m1,.int .i64 x.m2,.int .i64 x.m3,.int .i64 x.m4,.int .i64 x.m5,.int .i64 x.m6,.int .i64 x.m7]
def TS (w:World):Prop:=∃ t fr,w.heap[4]? = some (.cells #[.int .i64 1,.int .i64 24,.int .i64 32] t fr)
theorem TS.lt {w:World} (h:TS w):4 < w.heap.size:=by
 obtain ⟨t,fr,h⟩:=h
 exact (Array.getElem?_eq_some_iff.1 h).1
theorem TS.below {w w':World} (h:TS w) (hb:Below w.heap.size w w'):TS w':=by
 have hl:=h.lt
 obtain ⟨t,fr,h⟩:=h
 exact ⟨t,fr,(hb.block _ hl).trans h⟩
theorem TS.cells {w:World} (h:TS w):w.cell? ⟨4,0,none⟩ = some (.int .i64 1) ∧ w.cell? ⟨4,1,none⟩ = some (.int .i64 24) ∧ w.cell? ⟨4,2,none⟩ = some (.int .i64 32):=by
 obtain ⟨t,fr,h⟩:=h
 simp [World.cell?,h]
def znw (t a:Int):Bool:=decide ((t = 0 ∧ a = 0) ∨ (t = 1 ∧ 0 ≤ a ∧ a < 24) ∨ (t = 2 ∧ 0 ≤ a ∧ a < 32))
theorem yaei {t a:Int} (h:(t = 0 ∧ a = 0) ∨ (t = 1 ∧ 0 ≤ a ∧ a < 24) ∨ (t = 2 ∧ 0 ≤ a ∧ a < 32)):znw t a = true:=decide_eq_true h
theorem zkn {t a:Int} (h:¬ ((t = 0 ∧ a = 0) ∨ (t = 1 ∧ 0 ≤ a ∧ a < 24) ∨ (t = 2 ∧ 0 ≤ a ∧ a < 32))):znw t a = false:=decide_eq_false h
theorem yafg {t a:Int} (h:znw t a = true):(t = 0 ∧ a = 0) ∨ (t = 1 ∧ 0 ≤ a ∧ a < 24) ∨ (t = 2 ∧ 0 ≤ a ∧ a < 32):=of_decide_eq_true h
def zjk (e:Int):Bool:=decide (0 ≤ e) && znw (e % 4) (e / 4)
def tieT (e:Int):Int:=if zjk e = true then e % 4 else 0
def tieA (e:Int):Int:=if zjk e = true then e / 4 else 0
def tieC (e:Int):Int:=if zjk e = true then 0 else 3
theorem yarj {e:Int} (h:zjk e = true):tieT e = e % 4 ∧ tieA e = e / 4 ∧ tieC e = 0:=by unfold tieT tieA tieC; rw [if_pos h,if_pos h,if_pos h]; exact ⟨rfl,rfl,rfl⟩
theorem zzy {e:Int} (h:zjk e = false):tieT e = 0 ∧ tieA e = 0 ∧ tieC e = 3:=by unfold tieT tieA tieC; rw [h]; exact ⟨rfl,rfl,rfl⟩
theorem yaje {n:Int} (h:n < 0):znw (n.tmod 4) (n.tdiv 4) = false:=by
 apply zkn
 obtain ⟨m,rfl⟩:∃ m:Int,n = -m:=⟨-n,by omega⟩
 rw [Int.neg_tmod,Int.neg_tdiv,Int.tmod_eq_emod_of_nonneg (by omega),Int.tdiv_eq_ediv_of_nonneg (by omega)]
 omega
theorem zqo {a b c d e f:Int} (h:a = b) (k:c = d) (l:e = f):Ending.returned (.tuple #[.int .i64 a,.int .i64 c,.int .i64 e]) = .returned (.tuple #[.int .i64 b,.int .i64 d,.int .i64 f]):=by rw [h,k,l]
theorem ztv (t a:Int) (w:World) (hT:TS w) (h:znw t a = true):Calls Tryz.prog 221 #[.int .i64 t,.int .i64 a] w fun e w' => e = .returned (.bool true) ∧ w' = w:=by
 obtain ⟨x0,x1,x2⟩:=hT.cells
 clear hT
 rcases yafg h with ⟨rfl,rfl⟩ | ⟨rfl,h1,h2⟩ | ⟨rfl,h1,h2⟩
 all_goals
  clear h
  go_enter Tryz.func221,Tryz.ntmps221
  go_wp2_with (go_at_call 64; refine (zaq _ _ _ (by omega)).mono ?_; rintro e w' ⟨rfl,rfl⟩)
  go_ret
  exact ⟨rfl,rfl⟩
theorem zna (t a:Int) (w:World) (hT:TS w) (h:znw t a = false):Calls Tryz.prog 221 #[.int .i64 t,.int .i64 a] w fun e w' => e = .returned (.bool false) ∧ w' = w:=by
 obtain ⟨x0,x1,x2⟩:=hT.cells
 have h':¬ ((t = 0 ∧ a = 0) ∨ (t = 1 ∧ 0 ≤ a ∧ a < 24) ∨ (t = 2 ∧ 0 ≤ a ∧ a < 32)):=of_decide_eq_false h
 clear hT h
 rcases (show (t = 0 ∧ ¬ (0 ≤ a ∧ a < 1)) ∨ (t = 1 ∧ ¬ (0 ≤ a ∧ a < 24)) ∨ (t = 2 ∧ ¬ (0 ≤ a ∧ a < 32)) ∨ ¬ (0 ≤ t ∧ t < 3) by omega) with ⟨rfl,ha⟩ | ⟨rfl,ha⟩ | ⟨rfl,ha⟩ | ha
 all_goals
  have H:=zaa ha
  clear h' ha
  go_enter Tryz.func221,Tryz.ntmps221
  go_wp2_with (first | (go_at_call 64; refine (zaq _ _ _ (by omega)).mono ?_; rintro e w' ⟨rfl,rfl⟩) | (go_at_call 64; refine (zbc _ _ _ H.out).mono ?_; rintro e w' ⟨rfl,rfl⟩))
  go_ret
  exact ⟨rfl,rfl⟩
theorem zjb (n:Int) (w:World) (hT:TS w) (h0:-9223372036854775808 ≤ n) (h1:n ≤ 9223372036854775807):Calls Tryz.prog 220 #[.int .i64 n] w fun e w' => e = .returned (.tuple #[.int .i64 (tieT n),.int .i64 (tieA n),.int .i64 (tieC n)]) ∧ w' = w:=by
 have T:=zaa hT
 clear hT
 by_cases c0:0 ≤ n
 ·by_cases c:znw (n % 4) (n / 4) = true
  ·have E:=zaa (yarj (e:=n) (by unfold zjk; rw [c,decide_eq_true c0]; rfl))
   have C:=zaa c
   clear c
   go_enter Tryz.func220,Tryz.ntmps220
   go_wp2_with (go_at_call 221; refine (ztv _ _ _ T.out C.out).mono ?_; rintro e w' ⟨rfl,rfl⟩)
   go_ret3
   exact ⟨zqo (by rw [E.out.1]) (by rw [E.out.2.1]) E.out.2.2.symm,rfl⟩
  ·have c':znw (n % 4) (n / 4) = false:=by simpa using c
   have E:=zaa (zzy (e:=n) (by unfold zjk; rw [c']; simp))
   have C:=zaa c'
   clear c c'
   go_enter Tryz.func220,Tryz.ntmps220
   go_wp2_with (go_at_call 221; refine (zna _ _ _ T.out C.out).mono ?_; rintro e w' ⟨rfl,rfl⟩)
   go_ret3
   exact ⟨zqo E.out.1.symm E.out.2.1.symm E.out.2.2.symm,rfl⟩
 ·have E:=zaa (zzy (e:=n) (by unfold zjk; rw [decide_eq_false c0]; rfl))
  go_enter Tryz.func220,Tryz.ntmps220
  go_wp2_with (go_at_call 221; refine (zna _ _ _ T.out (yaje (by omega))).mono ?_; rintro e w' ⟨rfl,rfl⟩)
  go_ret3
  exact ⟨zqo E.out.1.symm E.out.2.1.symm E.out.2.2.symm,rfl⟩
theorem zfw (n:Int) (w:World) (h0:0 ≤ n) (h1:n ≤ 9223372036854775807):Calls Tryz.prog 209 #[.int .i64 n] w fun e w' => e = .returned (.tuple #[.int .i64 (n % 4),.int .i64 (n / 4)]) ∧ w' = w:=by
 go_enter Tryz.func209,Tryz.ntmps209
 go_wp2
 go_ret2
 exact ⟨rfl,rfl⟩
theorem yaak (n:Int) (w:World) (h0:n < 0) (h1:-9223372036854775808 ≤ n):Calls Tryz.prog 209 #[.int .i64 n] w fun e w' => (∃ x y:Int,e = .returned (.tuple #[.int .i64 x,.int .i64 y])) ∧ w' = w:=by
 go_enter Tryz.func209,Tryz.ntmps209
 go_wp2
 go_ret2
 exact ⟨⟨_,_,rfl⟩,rfl⟩
theorem zen (n:Int) (w:World) (h0:-9223372036854775808 ≤ n) (h1:n ≤ 9223372036854775807):Calls Tryz.prog 191 #[.int .i64 n] w fun e w' => e = .returned (.bool (zjk n)) ∧ w' = w:=by
 rcases (show n < 0 ∨ n = 0 ∨ 0 < n by omega) with c | rfl | c
 ·have E:=zaa (show zjk n = false by unfold zjk; rw [decide_eq_false (by omega)]; rfl)
  have q0:(n == 0) = false:=by rw [beq_eq_false_iff_ne]; omega
  have q1:¬ 0 < n:=by omega
  go_enter Tryz.func191,Tryz.ntmps191
  go_wp2_with fail
  refine (yaak _ _ c h0).mono ?_
  rintro e w' ⟨⟨x,y,rfl⟩,rfl⟩
  go_wp2
  go_ret
  exact ⟨zae E.out.symm,rfl⟩
 ·go_enter Tryz.func191,Tryz.ntmps191
  go_wp2
  go_ret
  exact ⟨zae (by decide),rfl⟩
 ·have q0:(n == 0) = false:=by rw [beq_eq_false_iff_ne]; omega
  have E:=zaa (show zjk n = znw (n % 4) (n / 4) by unfold zjk; rw [decide_eq_true (by omega)]; rfl)
  rcases (show (n % 4 = 1 ∧ n / 4 < 24) ∨ (n % 4 = 1 ∧ ¬ n / 4 < 24) ∨ (n % 4 = 2 ∧ n / 4 < 32) ∨ (n % 4 = 2 ∧ ¬ n / 4 < 32) ∨ (¬ n % 4 = 1 ∧ ¬ n % 4 = 2) by omega) with ⟨r,q⟩ | ⟨r,q⟩ | ⟨r,q⟩ | ⟨r,q⟩ | ⟨r,q⟩
  ·have A:=zaa (yaei (t:=n % 4) (a:=n / 4) (by omega))
   have r1:(n % 4 == 1) = true:=by rw [beq_iff_eq]; exact r
   clear r
   go_enter Tryz.func191,Tryz.ntmps191
   go_wp2_with fail
   refine (zfw _ _ (by omega) h1).mono ?_
   rintro e w' ⟨rfl,rfl⟩
   go_wp2
   go_ret
   exact ⟨zae (by rw [E.out,A.out]; first | done | exact decide_eq_false (by omega)),rfl⟩
  ·have A:=zaa (zkn (t:=n % 4) (a:=n / 4) (by omega))
   have r1:(n % 4 == 1) = true:=by rw [beq_iff_eq]; exact r
   have r2:(n % 4 == 2) = false:=by rw [beq_eq_false_iff_ne]; omega
   clear r
   go_enter Tryz.func191,Tryz.ntmps191
   go_wp2_with fail
   refine (zfw _ _ (by omega) h1).mono ?_
   rintro e w' ⟨rfl,rfl⟩
   go_wp2
   go_ret
   exact ⟨zae (by rw [E.out,A.out]; first | done | exact decide_eq_false (by omega)),rfl⟩
  ·have A:=zaa (yaei (t:=n % 4) (a:=n / 4) (by omega))
   have r1:(n % 4 == 1) = false:=by rw [beq_eq_false_iff_ne]; omega
   have r2:(n % 4 == 2) = true:=by rw [beq_iff_eq]; exact r
   clear r
   go_enter Tryz.func191,Tryz.ntmps191
   go_wp2_with fail
   refine (zfw _ _ (by omega) h1).mono ?_
   rintro e w' ⟨rfl,rfl⟩
   go_wp2
   go_ret
   exact ⟨zae (by rw [E.out,A.out]; first | done | exact decide_eq_false (by omega)),rfl⟩
  ·have A:=zaa (zkn (t:=n % 4) (a:=n / 4) (by omega))
   have r1:(n % 4 == 1) = false:=by rw [beq_eq_false_iff_ne]; omega
   have r2:(n % 4 == 2) = true:=by rw [beq_iff_eq]; exact r
   clear r
   go_enter Tryz.func191,Tryz.ntmps191
   go_wp2_with fail
   refine (zfw _ _ (by omega) h1).mono ?_
   rintro e w' ⟨rfl,rfl⟩
   go_wp2
   go_ret
   exact ⟨zae (by rw [E.out,A.out]; first | done | exact decide_eq_false (by omega)),rfl⟩
  ·have A:=zaa (zkn (t:=n % 4) (a:=n / 4) (by omega))
   have r1:(n % 4 == 1) = false:=by rw [beq_eq_false_iff_ne]; exact r
   have r2:(n % 4 == 2) = false:=by rw [beq_eq_false_iff_ne]; exact q
   clear r q
   go_enter Tryz.func191,Tryz.ntmps191
   go_wp2_with fail
   refine (zfw _ _ (by omega) h1).mono ?_
   rintro e w' ⟨rfl,rfl⟩
   go_wp2
   go_ret
   exact ⟨zae (by rw [E.out,A.out]; first | done | exact decide_eq_false (by omega)),rfl⟩
def entB (i:Nat) (z size:Int):Bool:=zjk z && (z == 0 || decide ((i:Int) < size))
def yajj (zs:List Int) (size:Int) (k:Nat):Prop:=∀ i,i < k → entB i (zs.getD i 0) size = true
def mapB (zs:List Int) (size:Int):Bool:=(List.range 8).all fun i => entB i (zs.getD i 0) size
theorem yakq {zs:List Int} {size:Int} (h:yajj zs size 8):mapB zs size = true:=by
 unfold mapB
 rw [List.all_eq_true]
 intro i hi
 exact h i (List.mem_range.1 hi)
theorem zug {zs:List Int} {size:Int} (h:mapB zs size = true):yajj zs size 8:=by
 unfold mapB at h
 rw [List.all_eq_true] at h
 intro i hi
 exact h i (List.mem_range.2 hi)
theorem yapu {zs:List Int} {size:Int} {k:Nat} (hk:k < 8) (h:entB k (zs.getD k 0) size = false):mapB zs size = false:=by
 rw [Bool.eq_false_iff]
 intro e
 rw [zug e k hk] at h
 exact absurd h (by decide)
theorem yagq {zs:List Int} {size:Int} {k:Nat} (h:yajj zs size k) (g:entB k (zs.getD k 0) size = true):yajj zs size (k + 1):=by
 intro i hi
 by_cases e:i = k
 ·rw [e]; exact g
 ·exact h i (by omega)
def zlv (x:Ino):Bool:=if x.kind = 0 then decide (x.size = 0 ∧ x.links = 0 ∧ x.map = [0,0,0,0,0,0,0,0]) else if x.kind = 2 then x.size == 0 && x.links == 1 else decide (0 < x.links)
def ziy (x:Ino):Bool:=decide (0 ≤ x.kind ∧ x.kind ≤ 2) && (decide (0 ≤ x.size ∧ x.size ≤ 8) && (decide (0 ≤ x.links ∧ x.links ≤ 24) && (mapB x.map x.size && zlv x)))
def Ino.R (x:Ino):Prop:=∀ z ∈ x.map,-9223372036854775808 ≤ z ∧ z ≤ 9223372036854775807
theorem Ino.len (x:Ino):x.map.length = 8:=rfl
theorem Ino.at (x:Ino) (k:Nat) (hk:k < 8):x.cs[3 + k]? = some (.int .i64 (x.map.getD k 0)):=by
 rcases (show k = 0 ∨ k = 1 ∨ k = 2 ∨ k = 3 ∨ k = 4 ∨ k = 5 ∨ k = 6 ∨ k = 7 by omega) with rfl | rfl | rfl | rfl | rfl | rfl | rfl | rfl <;> rfl
theorem Ino.R.at {x:Ino} (h:x.R) (k:Nat) (hk:k < 8):-9223372036854775808 ≤ x.map.getD k 0 ∧ x.map.getD k 0 ≤ 9223372036854775807:=by
 have e:x.map.getD k 0 = x.map[k]'(by rw [x.len]; exact hk):=by rw [List.getD_eq_getElem?_getD,List.getElem?_eq_getElem (by rw [x.len]; exact hk)]; rfl
 rw [e]
 exact h _ (List.getElem_mem _)
set_option maxRecDepth 100000 in
set_option maxHeartbeats 2000000 in
@[go_sem] theorem yawl (m0 m1 m2 m3 m4 m5 m6 m7:Int) (w:World):(Op.equalIn 9999 195 (.agg #[.int .i64 m0,.int .i64 m1,.int .i64 m2,.int .i64 m3,.int .i64 m4,.int .i64 m5,.int .i64 m6,.int .i64 m7]) (.agg #[.int .i64 0,.int .i64 0,.int .i64 0,.int .i64 0,.int .i64 0,.int .i64 0,.int .i64 0,.int .i64 0])).run Tryz.prog w = .ok (decide ([m0,m1,m2,m3,m4,m5,m6,m7] = [0,0,0,0,0,0,0,0])) w:=by
 have u3:=Tryz.underlying3
 have a3:=Tryz.isAgg3
 have z3:=Tryz.sizeOf3
 rw [show (9999:Nat) = 9998 + 1 from rfl,Op.equalIn]
 simp only [Sem.run_bind,run_underlying Tryz.underlying195,Result.andThen_ok]
 simp only [Std.Legacy.Range.forIn_eq_forIn_range',Std.Legacy.Range.size,Nat.sub_zero,Nat.add_sub_cancel,Nat.div_one,List.range'_succ,List.range'_zero,List.forIn_cons,List.forIn_nil]
 go_simp
 by_cases h0:m0 = 0
 case neg => simp [h0]
 by_cases h1:m1 = 0
 case neg => simp [h0,h1]
 by_cases h2:m2 = 0
 case neg => simp [h0,h1,h2]
 by_cases h3:m3 = 0
 case neg => simp [h0,h1,h2,h3]
 by_cases h4:m4 = 0
 case neg => simp [h0,h1,h2,h3,h4]
 by_cases h5:m5 = 0
 case neg => simp [h0,h1,h2,h3,h4,h5]
 by_cases h6:m6 = 0
 case neg => simp [h0,h1,h2,h3,h4,h5,h6]
 by_cases h7:m7 = 0
 case neg => simp [h0,h1,h2,h3,h4,h5,h6,h7]
 simp [h0,h1,h2,h3,h4,h5,h6,h7]
set_option maxRecDepth 100000 in
set_option maxHeartbeats 2000000 in
theorem zxe (x:Ino) (w:World) (hr:x.R):Calls Tryz.prog 163 #[x.v] w fun e w' => e = .returned (.bool (ziy x)) ∧ Below w.heap.size w w':=by
 have hv:x.v = .agg x.cs.toArray:=rfl
 have c0:(w.alloc (.cells x.cs.toArray 197)).cell? ⟨w.heap.size,0,none⟩ = some (.int .i64 x.kind):=(zbe (xs:=x.cs) (zag rfl) 0).1
 have c1:(w.alloc (.cells x.cs.toArray 197)).cell? ⟨w.heap.size,1,none⟩ = some (.int .i64 x.size):=(zbe (xs:=x.cs) (zag rfl) 1).1
 have c2:(w.alloc (.cells x.cs.toArray 197)).cell? ⟨w.heap.size,2,none⟩ = some (.int .i64 x.links):=(zbe (xs:=x.cs) (zag rfl) 2).1
 have CM:=zaa (show ∀ k,k < 8 → (w.alloc (.cells x.cs.toArray 197)).cell? ⟨w.heap.size,3 + k,none⟩ = some (.int .i64 (x.map.getD k 0)) from fun k hk => ((zbe (xs:=x.cs) (zag rfl) (3 + k)).1).trans (x.at k hk))
 have B:=zaa ((Below.refl w.heap.size w).alloc (Nat.le_refl _) (.cells x.cs.toArray 197))
 rw [hv]
 by_cases h0:0 ≤ x.kind ∧ x.kind ≤ 2
 ·by_cases h1:0 ≤ x.size ∧ x.size ≤ 8
  ·by_cases h2:0 ≤ x.links ∧ x.links ≤ 24
   ·have E:=zaa (show ziy x = (mapB x.map x.size && zlv x) by unfold ziy; rw [decide_eq_true h0,decide_eq_true h1,decide_eq_true h2]; rfl)
    have H:=zaa (And.intro h0 (And.intro h1 h2))
    clear h0 h1 h2
    go_enter Tryz.func163,Tryz.ntmps163
    go_wp2_with fail
    refine (zay _ _ _ _ H.out.1).mono ?_
    rintro e w' ⟨rfl,rfl⟩
    go_wp2_with fail
    refine (zay _ _ _ _ H.out.2.1).mono ?_
    rintro e w' ⟨rfl,rfl⟩
    go_wp2_with fail
    refine (zay _ _ _ _ H.out.2.2).mono ?_
    rintro e w' ⟨rfl,rfl⟩
    go_wp2
    obtain ⟨wa,hwa⟩:∃ wa,wa = w.alloc (.cells x.cs.toArray 197):=⟨_,rfl⟩
    rw [← hwa] at c0 c1 c2 CM B ⊢
    have CA:=zaa (show ∀ j,wa.cell? ⟨w.heap.size,j,none⟩ = x.cs[j]? by rw [hwa]; exact fun j => (zbe (xs:=x.cs) (zag rfl) j).1)
    clear hwa
    go_loopw [3] (fun i wr => ∃ k:Nat,k ≤ 8 ∧ i = .int .i64 k ∧ wr = wa ∧ Hid (yajj x.map x.size k)) (fun i _ => 8 - (intOf i).toNat)
    case atStart => exact ⟨0,by omega,rfl,rfl,fun i hi => absurd hi (by omega)⟩
    case round =>
     obtain ⟨k,hk,rfl,rfl,M⟩:=hrel
     by_cases hlt:k < 8
     ·have c3:=CM.out k hlt
      obtain ⟨r0,r1⟩:=hr.at k hlt
      have k0:(0:Int) ≤ (k:Int):=by omega
      have k1:(k:Int) < 8:=by omega
      have MN:=zaa (fun e => yapu (zs:=x.map) (size:=x.size) hlt e)
      have MS:=zaa (fun e => yagq (k:=k) M.out e)
      generalize x.map.getD k 0 = z at c3 r0 r1 MN MS
      clear CM CA M
      cases ht:zjk z with
      | false =>
       have F:=zaa (show ziy x = false by rw [E.out,MN.out (by unfold entB; rw [ht]; rfl),Bool.false_and])
       have T:=zaa ht
       clear ht MN MS E
       go_wp2_with fail
       refine (zen _ _ r0 r1).mono ?_
       rintro e w' ⟨rfl,rfl⟩
       rw [T.out]
       go_wp2
       go_ret
       exact ⟨zae F.out.symm,B.out⟩
      | true =>
       by_cases hz:z = 0
       ·have q:(z != 0) = false:=by rw [hz]; rfl
        have G:=zaa (MS.out (by unfold entB; rw [ht,hz]; rfl))
        have T:=zaa ht
        clear ht MN MS hz
        go_wp2_with fail
        refine (zen _ _ r0 r1).mono ?_
        rintro e w' ⟨rfl,rfl⟩
        rw [T.out]
        go_wp2
        go_roundw
        case rel => exact ⟨k + 1,by omega,by go_num,trivial,G⟩
        case measure => simp [intOf]; omega
       ·have q:(z != 0) = true:=by rw [bne_iff_ne]; exact hz
        have qz:(z == 0) = false:=by rw [beq_eq_false_iff_ne]; exact hz
        by_cases hs:(k:Int) < x.size
        ·have q2:¬ x.size ≤ (k:Int):=by omega
         have G:=zaa (MS.out (by unfold entB; rw [ht,qz,decide_eq_true hs]; rfl))
         have T:=zaa ht
         clear ht MN MS hz hs qz
         go_wp2_with fail
         refine (zen _ _ r0 r1).mono ?_
         rintro e w' ⟨rfl,rfl⟩
         rw [T.out]
         go_wp2
         go_roundw
         case rel => exact ⟨k + 1,by omega,by go_num,trivial,G⟩
         case measure => simp [intOf]; omega
        ·have q2:x.size ≤ (k:Int):=by omega
         have F:=zaa (show ziy x = false by rw [E.out,MN.out (by unfold entB; rw [ht,qz,decide_eq_false hs]; rfl),Bool.false_and])
         have T:=zaa ht
         clear ht MN MS hz hs qz E
         go_wp2_with fail
         refine (zen _ _ r0 r1).mono ?_
         rintro e w' ⟨rfl,rfl⟩
         rw [T.out]
         go_wp2
         go_ret
         exact ⟨zae F.out.symm,B.out⟩
     ·obtain rfl:k = 8:=by omega
      have F:=zaa (show ziy x = zlv x by rw [E.out,yakq M.out,Bool.true_and])
      clear E M CM
      rcases (show x.kind = 0 ∨ x.kind = 1 ∨ x.kind = 2 by have:=H.out; omega) with hz | hz | hz
      ·have K:=zaa (show zlv x = decide (x.size = 0 ∧ x.links = 0 ∧ x.map = [0,0,0,0,0,0,0,0]) by unfold zlv; rw [if_pos hz])
       rw [hz] at c0
       have c3:wr.cell? ⟨w.heap.size,3,none⟩ = some (.int .i64 x.m0):=CA.out 3
       have c4:wr.cell? ⟨w.heap.size,4,none⟩ = some (.int .i64 x.m1):=CA.out 4
       have c5:wr.cell? ⟨w.heap.size,5,none⟩ = some (.int .i64 x.m2):=CA.out 5
       have c6:wr.cell? ⟨w.heap.size,6,none⟩ = some (.int .i64 x.m3):=CA.out 6
       have c7:wr.cell? ⟨w.heap.size,7,none⟩ = some (.int .i64 x.m4):=CA.out 7
       have c8:wr.cell? ⟨w.heap.size,8,none⟩ = some (.int .i64 x.m5):=CA.out 8
       have c9:wr.cell? ⟨w.heap.size,9,none⟩ = some (.int .i64 x.m6):=CA.out 9
       have c10:wr.cell? ⟨w.heap.size,10,none⟩ = some (.int .i64 x.m7):=CA.out 10
       clear CA
       go_wp2
       all_goals
        go_ret
        refine ⟨zae ?_,B.out⟩
        rw [F.out,K.out,eq_comm]
        clear c0 c1 c2 c3 c4 c5 c6 c7 c8 c9 c10
        rename_i h9
        simp_all [Ino.map]
      ·have K:=zaa (show zlv x = decide (0 < x.links) by unfold zlv; rw [if_neg (by omega),if_neg (by omega)])
       rw [hz] at c0
       clear CA
       go_wp2
       go_ret
       exact ⟨zae (by rw [F.out,K.out]),B.out⟩
      ·have K:=zaa (show zlv x = (x.size == 0 && x.links == 1) by unfold zlv; rw [if_neg (by omega),if_pos hz])
       rw [hz] at c0
       clear CA
       cases hq:(x.size == 0)
       all_goals
        rw [hq] at K
        go_wp2
        go_ret
        exact ⟨zae (by rw [F.out,K.out]; rfl),B.out⟩
   ·have E:=zaa (show ziy x = false by unfold ziy; rw [decide_eq_false h2,Bool.false_and,Bool.and_false,Bool.and_false])
    go_enter Tryz.func163,Tryz.ntmps163
    go_wp2_with fail
    refine (zay _ _ _ _ h0).mono ?_
    rintro e w' ⟨rfl,rfl⟩
    go_wp2_with fail
    refine (zay _ _ _ _ h1).mono ?_
    rintro e w' ⟨rfl,rfl⟩
    go_wp2_with fail
    refine (zds _ _ _ _ h2).mono ?_
    rintro e w' ⟨rfl,rfl⟩
    go_wp2
    go_ret
    exact ⟨zae E.out.symm,B.out⟩
  ·have E:=zaa (show ziy x = false by unfold ziy; rw [decide_eq_false h1,Bool.false_and,Bool.and_false])
   go_enter Tryz.func163,Tryz.ntmps163
   go_wp2_with fail
   refine (zay _ _ _ _ h0).mono ?_
   rintro e w' ⟨rfl,rfl⟩
   go_wp2_with fail
   refine (zds _ _ _ _ h1).mono ?_
   rintro e w' ⟨rfl,rfl⟩
   go_wp2
   go_ret
   exact ⟨zae E.out.symm,B.out⟩
 ·have E:=zaa (show ziy x = false by unfold ziy; rw [decide_eq_false h0,Bool.false_and])
  go_enter Tryz.func163,Tryz.ntmps163
  go_wp2_with fail
  refine (zds _ _ _ _ h0).mono ?_
  rintro e w' ⟨rfl,rfl⟩
  go_wp2
  go_ret
  exact ⟨zae E.out.symm,B.out⟩
theorem yark:(Tryz.prog.info? 176).map (fun i => (i.zero,i.size,i.bytes)) = some (some (.agg #[.int .i64 0,.int .i64 0]),2,16):=by kernel_rfl
theorem Ino.all {x:Ino} {w':World} {b:Nat} (h:∀ j,w'.cell? ⟨b,j,none⟩ = x.cs[j]?):w'.cell? ⟨b,0,none⟩ = some (.int .i64 x.kind) ∧ w'.cell? ⟨b,1,none⟩ = some (.int .i64 x.size) ∧ w'.cell? ⟨b,2,none⟩ = some (.int .i64 x.links) ∧ w'.cell? ⟨b,3,none⟩ = some (.int .i64 x.m0) ∧ w'.cell? ⟨b,4,none⟩ = some (.int .i64 x.m1) ∧ w'.cell? ⟨b,5,none⟩ = some (.int .i64 x.m2) ∧ w'.cell? ⟨b,6,none⟩ = some (.int .i64 x.m3) ∧ w'.cell? ⟨b,7,none⟩ = some (.int .i64 x.m4) ∧ w'.cell? ⟨b,8,none⟩ = some (.int .i64 x.m5) ∧ w'.cell? ⟨b,9,none⟩ = some (.int .i64 x.m6) ∧ w'.cell? ⟨b,10,none⟩ = some (.int .i64 x.m7):=⟨h 0,h 1,h 2,h 3,h 4,h 5,h 6,h 7,h 8,h 9,h 10⟩
def inos (ps:List Ino):List Value:=ps.flatMap Ino.cs
theorem Ino.cs_len (x:Ino):x.cs.length = 11:=rfl
theorem zfu (ps:List Ino) (k i:Nat) (h:k < ps.length) (hi:i < 11):(inos ps)[k * 11 + i]? = ps[k].cs[i]?:=(zbl _ 11 Ino.cs_len ps k i h hi).trans (by rw [List.getElem?_eq_getElem (show i < ps[k].cs.length by rw [Ino.cs_len]; exact hi)])
def RdN (w:World) (v:Value) (ps:List Ino):Prop:=Rd w 11 v ps.length (inos ps)
theorem RdN.shape {w:World} {v:Value} {ps:List Ino} (h:RdN w v ps):∃ ao cap,v = .slice ao ps.length cap ∧ ps.length ≤ cap ∧ (0 < ps.length → ∃ b o,ao = some ⟨b,o,none⟩ ∧ b < w.heap.size ∧
  ∀ k (h:k < ps.length),w.cell? ⟨b,o + k * 11,none⟩ = some (.int .i64 ps[k].kind) ∧ w.cell? ⟨b,o + k * 11 + 1,none⟩ = some (.int .i64 ps[k].size) ∧ w.cell? ⟨b,o + k * 11 + 2,none⟩ = some (.int .i64 ps[k].links) ∧ w.cell? ⟨b,o + k * 11 + 3,none⟩ = some (.int .i64 ps[k].m0) ∧ w.cell? ⟨b,o + k * 11 + 4,none⟩ = some (.int .i64 ps[k].m1) ∧ w.cell? ⟨b,o + k * 11 + 5,none⟩ = some (.int .i64 ps[k].m2) ∧ w.cell? ⟨b,o + k * 11 + 6,none⟩ = some (.int .i64 ps[k].m3) ∧ w.cell? ⟨b,o + k * 11 + 7,none⟩ = some (.int .i64 ps[k].m4) ∧ w.cell? ⟨b,o + k * 11 + 8,none⟩ = some (.int .i64 ps[k].m5) ∧ w.cell? ⟨b,o + k * 11 + 9,none⟩ = some (.int .i64 ps[k].m6) ∧ w.cell? ⟨b,o + k * 11 + 10,none⟩ = some (.int .i64 ps[k].m7)):=by
 obtain ⟨_,ao,cap,rfl,h2,h3⟩:=h
 refine ⟨ao,cap,rfl,h2.1,fun hn => ?_⟩
 obtain ⟨b,o,rfl,hb,hc⟩:=h3 hn
 exact ⟨b,o,rfl,hb,fun k hk => ⟨(hc (k * 11) (by omega)).trans (zfu ps k 0 hk (by omega)),(hc (k * 11 + 1) (by omega)).trans (zfu ps k 1 hk (by omega)),(hc (k * 11 + 2) (by omega)).trans (zfu ps k 2 hk (by omega)),(hc (k * 11 + 3) (by omega)).trans (zfu ps k 3 hk (by omega)),(hc (k * 11 + 4) (by omega)).trans (zfu ps k 4 hk (by omega)),(hc (k * 11 + 5) (by omega)).trans (zfu ps k 5 hk (by omega)),(hc (k * 11 + 6) (by omega)).trans (zfu ps k 6 hk (by omega)),(hc (k * 11 + 7) (by omega)).trans (zfu ps k 7 hk (by omega)),(hc (k * 11 + 8) (by omega)).trans (zfu ps k 8 hk (by omega)),(hc (k * 11 + 9) (by omega)).trans (zfu ps k 9 hk (by omega)),(hc (k * 11 + 10) (by omega)).trans (zfu ps k 10 hk (by omega))⟩⟩
theorem yakp:(Tryz.prog.info? 197).map (fun i => (i.zero,i.size,i.bytes)) = some (some (.agg #[.int .i64 0,.int .i64 0,.int .i64 0,.int .i64 0,.int .i64 0,.int .i64 0,.int .i64 0,.int .i64 0,.int .i64 0,.int .i64 0,.int .i64 0]),11,88):=by kernel_rfl
structure Den where
 dir:Int
 name:ByteArray
 child:Int
def Den.v (x:Den):Value:=.agg #[.int .i64 x.dir,.string x.name,.int .i64 x.child]
def Den.freeB (x:Den):Bool:=x.dir == 0 && (x.name.size == 0 && x.child == -1)
def Den.okB (x:Den):Bool:=x.freeB || (decide (1 ≤ x.child ∧ x.child ≤ 15) && (decide (0 ≤ x.dir ∧ x.dir ≤ 15) && nmB x.name))
theorem yamq (s:ByteArray):s.toList = [] ↔ s.size = 0:=by
 rw [ByteArray.toList_eq]
 obtain ⟨⟨x⟩⟩:=s
 show x = [] ↔ x.length = 0
 exact List.length_eq_zero_iff.symm
end Go.Proofs.YtlkmnpanddchdaaGreatDoor
