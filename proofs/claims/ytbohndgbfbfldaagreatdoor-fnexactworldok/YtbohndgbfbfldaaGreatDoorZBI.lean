/- Several texts laid together: NmU, RdA, OpenA. -/
import Derived.Test.YtbohndgbfbfldaaGreatDoorZAD
import Derived.Test.YtbohndgbfbfldaaGreatDoorZBH
import Derived.Test.YtbohndgbfbfldaaGreatDoorZAB
import Derived.ProofKit
import Derived.OpenShut
import Derived.ShutString
import Derived.ChangeOld
import Derived.Lib.SmallJoins
import Derived.Deep.Slices
import Derived.Deep.Strs
set_option maxRecDepth 100000
set_option maxHeartbeats 4000000
namespace Go.Proofs.YtbohndgbfbfldaaGreatDoor
open Go.RowKit
def zvp (ds:List Nat) (j:Nat):Value:=if j < 6 - ds.length then .int .u8 0 else .int .u8 (96+((ds[j - (6 - ds.length)]?.getD 0:Nat):Int))
theorem zzl (j:Nat) (h:j < 6):zvp [] j=.int .u8 0:=by unfold zvp;rw[if_pos (by simpa using h)]
theorem zut (d:Nat) (ds:List Nat) (h:ds.length < 6) (j:Nat):(if j=6 - ds.length - 1 then Value.int .u8 (96+(d:Int)) else zvp ds j)=zvp (d :: ds) j:=by
 unfold zvp
 by_cases e:j=6 - ds.length - 1
 ·subst e;rw[if_pos rfl,if_neg (by simp only[List.length_cons];omega)];simp only[List.length_cons];rw[show 6 - ds.length - 1 - (6 - (ds.length+1))=0 by omega];rfl
 ·rw[if_neg e];simp only[List.length_cons]
  by_cases e2:j < 6 - ds.length
  ·rw[if_pos e2,if_pos (by omega)]
  ·rw[if_neg e2,if_neg (by omega),show j - (6 - (ds.length+1))=(j - (6 - ds.length))+1 by omega];rfl
theorem zsh (ds:List Nat):strOfNums (ds.map fun d=>(96:Int)+(d:Nat))=zbi ds:=by
 unfold strOfNums zbi;rw[List.map_map]
 congr 2
theorem yadi (w:World) (b l:Nat) (h1:1≤l) (h6:l≤6):(Instr.sliceAt 259 (.pointer (some ⟨b,0,none⟩)) (some (.int .i64 (6 - (l:Int)))) none none).run Tryz.prog w=.ok (.slice (some ⟨b,6 - l,none⟩) l l) w:=by
 have al:Tryz.prog.arrayLen 259=6:=by kernel_rfl
 rw[run_sliceAt_array_l w 259 ⟨b,0,none⟩ (by kernel_rfl) .i64 (6 - (l:Int)) (by omega) (by rw[al];omega),al]
 have sz:(sizeOf (Tryz.prog.elem 259)).run Tryz.prog w=.ok 1 w:=by kernel_rfl
 rw[sz];simp only[Result.andThen,slicedAt];rw[if_neg (by omega),show (6 - (l:Int)).toNat=6 - l by omega,show 6 - (6 - l)=l by omega,Nat.mul_one];simp[Addr.add];omega
theorem zfl (n:Int) (w:World) (hn:n≤9223372036854775807):Calls Tryz.prog 211 #[.int .i64 n] w fun e w'=>e=.returned (.tuple #[.string (zoh n),.int .i64 (unpC n)])∧Below w.heap.size w w':=by
 by_cases c0:n < 1
 ·have E:=zaa (zop (zpm (n:=n) (by omega)));go_enter Tryz.func211,Tryz.ntmps211;go_wp2;go_ret2;exact ⟨zqg E.o.1.symm E.o.2.symm,Below.refl _ _⟩
 obtain ⟨N,rfl⟩:=Int.eq_ofNat_of_zero_le (show 0≤n by omega)
 have START:Hid ((w.alloc (.cells #[.int .u8 0,.int .u8 0,.int .u8 0,.int .u8 0,.int .u8 0,.int .u8 0] 259)).rowIs w.heap.size 259 6 (zvp [])):=by
  refine World.rowIs_alloc w #[.int .u8 0,.int .u8 0,.int .u8 0,.int .u8 0,.int .u8 0,.int .u8 0] 259 (zvp []) (fun i hi=>?_);have hi':i < 6:=hi;rw[zzl i hi']
  rcases (show i=0∨i=1∨i=2∨i=3∨i=4∨i=5 by omega) with rfl | rfl | rfl | rfl | rfl | rfl <;> rfl
 have BH:Hid (Below w.heap.size w (w.alloc (.cells #[.int .u8 0,.int .u8 0,.int .u8 0,.int .u8 0,.int .u8 0,.int .u8 0] 259))):=(Below.refl _ _).alloc (Nat.le_refl _) _;go_enter Tryz.func211,Tryz.ntmps211;go_wp2
 go_loopw [0,5,6] (fun x f _ wr=>∃ (m:Nat) (ds:List Nat),x=.int .i64 (m:Int)∧f=.int .i64 (6 - (ds.length:Int))∧m≤N∧ds.length≤6∧Hid (Dg N m ds)∧Hid (wr.rowIs w.heap.size 259 6 (zvp ds))∧Hid (Below w.heap.size w wr)) (fun x _ _ _=>(intOf x).toNat)
 case atStart=>exact ⟨N,[],rfl,rfl,Nat.le_refl _,by simp,Dg.start N,START.o,BH.o⟩
 case round =>
  obtain ⟨m,ds,rfl,rfl,hm,hl,D,R,B⟩:=hrel
  by_cases c1:0 < m
  ·have m0:(0:Int) < (m:Int):=by omega
   by_cases c2:m % 27=0
   ·have E:=zaa (zop (zrf D.o c1 c2))
    have c2':((m:Int) % 27 == 0)=true:=by rw[beq_iff_eq];omega
    go_wp2;go_ret2;exact ⟨zqg E.o.1.symm E.o.2.symm,B.o⟩
   ·have c2':((m:Int) % 27 == 0)=false:=by rw[beq_eq_false_iff_ne];omega
    by_cases c3:6≤ds.length
    ·have E:=zaa (zop (zyc D.o c1 c3))
     have c3':((6:Int) - (ds.length:Int) == 0)=true:=by rw[beq_iff_eq];omega
     go_wp2;go_ret2;exact ⟨zqg E.o.1.symm E.o.2.symm,B.o⟩
    ·have c3':((6:Int) - (ds.length:Int) == 0)=false:=by rw[beq_eq_false_iff_ne];omega
     have D2:=zaa (D.o.step c1 c2);have g0:=R.o.frozen (6 - ds.length - 1);have g1:=R.o.cell (show 6 - ds.length - 1 < 6 by omega);generalize hv:zvp ds (6 - ds.length - 1)=v0 at g1
     have ev:(97+(m:Int) % 27 - 1)=96+((m % 27:Nat):Int):=by omega
     have R2:Hid ((wr.setCell ⟨w.heap.size,6 - ds.length - 1,none⟩ (.int .u8 (97+(m:Int) % 27 - 1))).rowIs w.heap.size 259 6 (zvp (m % 27 :: ds))):=by
      rw[ev];exact (R.o.set (6 - ds.length - 1) (.int .u8 (96+((m % 27:Nat):Int)))).congr (fun j _=>zut (m % 27) ds (by omega) j)
     have B2:Hid (Below w.heap.size w (wr.setCell ⟨w.heap.size,6 - ds.length - 1,none⟩ (.int .u8 (97+(m:Int) % 27 - 1)))):=B.o.setCell (by simp only;omega) _;clear ev;clear hv;go_wp2
     go_roundw
     case rel=>exact ⟨m / 27,m % 27 :: ds,by go_num,by go_num,by omega,by simp;omega,D2.o,R2.o,B2.o⟩
     case measure=>simp[intOf];omega
  ·obtain rfl:m=0:=by omega
   have E:=zaa (zxj D.o (by omega) hl)
   have hconv:=fun cap=>run_convert_bytes_arg (P:=Tryz.prog) wr 203 5 Tryz.underlying203 Tryz.underlying5 w.heap.size (6 - ds.length) ds.length cap (ds.map fun d=>(96:Int)+(d:Nat)) (by simp) (fun i hi=>by
    rw[R.o.cell (show 6 - ds.length+i < 6 by omega)];unfold zvp;rw[if_neg (by omega),show 6 - ds.length+i - (6 - ds.length)=i by omega]
    simp[List.getD,hi]) 9 Tryz.underlying9
   rw[zsh] at hconv
   have l1:1≤ds.length:=by
    have:=zvl (n:=N) (by omega);rw[D.o.done] at this;exact this
   have hsl:=yadi wr w.heap.size ds.length l1 hl;have hcv:=hconv ds.length;clear hconv;go_wp2;go_ret2;exact ⟨zqg E.o.1.symm E.o.2.symm,B.o⟩
theorem zkm (n:Int) (w:World) (hn:n≤9223372036854775807):Calls Tryz.prog 169 #[.int .i64 n] w fun e w'=>(∃ s,e=.returned (.tuple #[.string s,.bool (zdb n)])∧(zdb n=true→s=zoh n))∧Below w.heap.size w w':=by
 obtain ⟨N,hN,hN2,hN3⟩:∃ N:Nat,(0 < n→n=(N:Int))∧(¬ 0 < n→N=0)∧N≤9223372036854775807:=⟨n.toNat,fun h=>by omega,fun h=>by omega,by omega⟩
 have hdl:(zkx N).length≤14:=zwt 14 N (by omega);go_enter Tryz.func169,Tryz.ntmps169;go_wp2
 go_loopw [0,4,5] (fun x o _ wr=>∃ (y:Int) (ds:List Nat),x=.int .i64 y∧o=.string (zbi ds)∧y≤9223372036854775807∧Hid ((0 < n→∃ m:Nat,y=(m:Int)∧Dg N m ds)∧(¬ 0 < n→¬ 0 < y∧ds=[]))∧Hid (Below w.heap.size w wr)) (fun x _ _ _=>(intOf x).toNat)
 case atStart=>exact ⟨n,[],rfl,rfl,hn,⟨fun h=>⟨N,hN h,Dg.start N⟩,fun h=>⟨h,rfl⟩⟩,Below.refl _ _⟩
 case round =>
  obtain ⟨y,ds,rfl,rfl,hy,D,B⟩:=hrel
  by_cases c1:0 < y
  ·have hp:0 < n:=by
    rcases Decidable.em (0 < n) with h | h
    ·exact h
    ·exact absurd c1 (D.o.2 h).1
   obtain ⟨m,rfl,D1⟩:=D.o.1 hp;have D0:=zaa D1;clear D D1
   by_cases c2:m % 27=0
   ·have E:Hid (zdb n=false):=by
     rw[hN hp];exact zrf D0.o (by omega) c2
    have c2':((m:Int) % 27 == 0)=true:=by rw[beq_iff_eq];omega
    go_wp2;go_ret2;exact ⟨⟨_,yaaa rfl E.o.symm,fun h=>by rw[E.o] at h;cases h⟩,B.o⟩
   ·have c2':((m:Int) % 27 == 0)=false:=by rw[beq_eq_false_iff_ne];omega
    have D2:=zaa (D0.o.step (by omega) c2);have hl14:ds.length≤14:=Nat.le_trans D0.o.len hdl
    have hcv:=run_convert_bytes_arg (P:=Tryz.prog) (wr.alloc (.cells #[.int .u8 (97+(m:Int) % 27 - 1)] 5)) 203 5 Tryz.underlying203 Tryz.underlying5 wr.heap.size 0 1 1 [97+(m:Int) % 27 - 1] rfl (fun i hi=>by
     obtain rfl:i=0:=by omega
     exact World.cell?_alloc_mark wr #[.int .u8 (97+(m:Int) % 27 - 1)] 5 (0,0) 0) 9 Tryz.underlying9
    have eb:strOfNums [97+(m:Int) % 27 - 1]=⟨#[UInt8.ofNat (96+m % 27)]⟩:=by
     unfold strOfNums;simp only[List.map_cons,List.map_nil];rw[show (97+(m:Int) % 27 - 1).toNat=96+m % 27 by omega]
    rw[eb] at hcv;have had:=run_string_add_sum (P:=Tryz.prog) (wr.alloc (.cells #[.int .u8 (97+(m:Int) % 27 - 1)] 5)) ⟨#[UInt8.ofNat (96+m % 27)]⟩ (zbi ds) (by rw[zbd];show 1+_≤_;omega);rw[zmb] at had;have B2:Hid (Below w.heap.size w (wr.alloc (.cells #[.int .u8 (97+(m:Int) % 27 - 1)] 5))):=B.o.alloc B.o.size _;clear eb;generalize hbb:(⟨#[UInt8.ofNat (96+m % 27)]⟩:ByteArray)=bb at hcv had;clear hbb;go_wp2
    go_roundw
    case rel=>exact ⟨(m:Int) / 27,m % 27 :: ds,rfl,rfl,by omega,⟨fun _=>⟨m / 27,by omega,D2.o⟩,fun h=>absurd hp h⟩,B2.o⟩
    case measure=>simp[intOf];omega
  ·have LEN:Hid (ds.length≤14∧nmB (zbi ds)=zdb n∧(zdb n=true→zbi ds=zoh n)):=by
    rcases Decidable.em (0 < n) with hp | hp
    ·obtain ⟨m,em,D1⟩:=D.o.1 hp
     obtain rfl:m=0:=by omega
     have en:=hN hp;have hl:=D1.len;have hd:=D1.done;refine ⟨by omega,?_,fun h=>?_⟩
     ·by_cases c6:ds.length≤6
      ·have h1:1≤ds.length:=by rw[← hd];exact zvl (by omega)
       rw[zpt D1.ok h1 c6,en];exact (decide_eq_true ⟨by omega,by rw[Int.toNat_natCast,hd];exact fun d x=>(D1.ok d x).1,by rw[Int.toNat_natCast,hd];exact c6⟩).symm
      ·rw[zkt (by rw[zbd];omega),en];exact (decide_eq_false (fun x=>by have:=x.2.2;rw[Int.toNat_natCast,hd] at this;omega)).symm
     ·unfold zoh;rw[if_pos h,en,Int.toNat_natCast,hd]
    ·obtain ⟨_,rfl⟩:=D.o.2 hp;refine ⟨by simp,?_,fun h=>?_⟩
     ·rw[zny (by rw[zbd];simp),zpm hp]
     ·rw[zpm hp] at h;cases h
   have hsz:(zbi ds).size≤maxLen:=by
    have:=LEN.o.1;rw[zbd];unfold maxLen;omega
   go_wp2_with (go_at_call 171;refine (zcp _ _ hsz).mono ?_;rintro e w' ⟨rfl,rfl⟩);go_ret2;exact ⟨⟨_,yaaa rfl LEN.o.2.1,LEN.o.2.2⟩,B.o⟩
def wdI (ls:List Int) (z:Int):Int:=ls.getD z.toNat 0
theorem zzt {ls:List Int} {n:Nat} (h:n < ls.length):wdI ls (n:Int)=ls[n]:=by
 unfold wdI;rw[Int.toNat_natCast,List.getD_eq_getElem?_getD,List.getElem?_eq_getElem h];rfl
def zfx (ls:List Int) (i:Nat):Ino:=⟨wdI ls (48+12*(i:Int)),wdI ls (48+12*(i:Int)+1),wdI ls (48+12*(i:Int)+2),wdI ls (48+12*(i:Int)+3),wdI ls (48+12*(i:Int)+4),wdI ls (48+12*(i:Int)+5),wdI ls (48+12*(i:Int)+6),wdI ls (48+12*(i:Int)+7),wdI ls (48+12*(i:Int)+8),wdI ls (48+12*(i:Int)+9),wdI ls (48+12*(i:Int)+10)⟩
def zjl (ls:List Int) (k:Nat):Den:=if wdI ls (240+3*(k:Int)+2)=0 then ⟨0,⟨#[]⟩,-1⟩ else ⟨wdI ls (240+3*(k:Int)),zoh (wdI ls (240+3*(k:Int)+1)),wdI ls (240+3*(k:Int)+2) - 1⟩
def zbj (ls:List Int) (k:Nat):Bool:=if wdI ls (240+3*(k:Int)+2)=0 then wdI ls (240+3*(k:Int)) == 0 && wdI ls (240+3*(k:Int)+1) == 0 else zdb (wdI ls (240+3*(k:Int)+1))
def zaz (ls:List Int) (n:Nat):List Ino:=(List.range n).map (zfx ls)
def zbc (ls:List Int) (n:Nat):List Den:=(List.range n).map (zjl ls)
def zce (ls:List Int) (n:Nat):Bool:=(List.range n).all (zbj ls)
theorem zhn (ls:List Int) (n:Nat):zaz ls (n+1)=zaz ls n ++ [zfx ls n]:=by unfold zaz;rw[List.range_succ,List.map_append];rfl
theorem zeo (ls:List Int) (n:Nat):zbc ls (n+1)=zbc ls n ++ [zjl ls n]:=by unfold zbc;rw[List.range_succ,List.map_append];rfl
theorem zba (ls:List Int) (n:Nat):(zaz ls n).length=n:=by simp[zaz]
theorem zaw (ls:List Int) (n:Nat):(zbc ls n).length=n:=by simp[zbc]
theorem zec {ls:List Int} {n k:Nat} (hk:k < n) (h:zbj ls k=false):zce ls n=false:=by
 unfold zce;rw[List.all_eq_false];exact ⟨k,List.mem_range.2 hk,by rw[h];simp⟩
theorem zip {ls:List Int} {n:Nat} (h:∀ k,k < n→zbj ls k=true):zce ls n=true:=by
 unfold zce;rw[List.all_eq_true];intro k hk;exact h k (List.mem_range.1 hk)
def riB (ls:List Int):Bool:=wdI ls 0 == 7 && (zce ls 24 && zew (zaz ls 16) (zbc ls 24))
def riC (ws:List Int) (ps:List St):Int:=if pmB ws ps=true then (if riB (zbk ws ps)=true then 0 else 3) else 1
def riN (ws:List Int) (ps:List St):List Ino:=if riC ws ps=0 then zaz (zbk ws ps) 16 else []
def riD (ws:List Int) (ps:List St):List Den:=if riC ws ps=0 then zbc (zbk ws ps) 24 else []
theorem zxv {ws:List Int} {ps:List St} (h:pmB ws ps=true):∀ k (h:k < (zbk ws ps).length),zap (zbk ws ps)[k]=true:=by
 have h1:=zzb h
 have h2:∀ p∈ps,zap p.val=true:=fun p hp=>by
  obtain ⟨i,hi,rfl⟩:=List.getElem_of_mem hp;exact (zna h i hi).2
 clear h
 have gen:∀ (ps:List St) (ws:List Int),(∀ x∈ws,zap x=true)→(∀ p∈ps,zap p.val=true)→∀ x∈zbk ws ps,zap x=true:=by
  intro ps
  induction ps with
  | nil=>intro ws h _ x hx;exact h x hx
  | cons p ps ih =>
   intro ws h1 h2 x hx;refine ih (ws.set p.at_.toNat p.val) (fun y hy=>?_) (fun q hq=>h2 q (List.mem_cons_of_mem _ hq)) x hx
   rcases List.mem_or_eq_of_mem_set hy with hy | hy
   ·exact h1 y hy
   ·rw[hy];exact h2 p (List.mem_cons_self ..)
 intro k hk;exact gen ps ws (fun x hx=>by obtain ⟨i,hi,rfl⟩:=List.getElem_of_mem hx;exact h1 i hi) h2 _ (List.getElem_mem hk)
theorem zhl {ws:List Int} {ps:List St} (h:pmB ws ps=true) (z:Int):0≤wdI (zbk ws ps) z∧wdI (zbk ws ps) z < 1099511627776:=by
 unfold wdI;rw[List.getD_eq_getElem?_getD]
 by_cases c:z.toNat < (zbk ws ps).length
 ·rw[List.getElem?_eq_getElem c];have:=zxv h _ c;unfold zap at this;simp at this;simpa using this
 ·rw[List.getElem?_eq_none (by omega)];exact ⟨by simp,by simp⟩
theorem yaby {ws:List Int} {ps:List St} (h:pmB ws ps=true) (i:Nat):(zfx (zbk ws ps) i).R:=by
 intro z hz
 have all:∀ y,-9223372036854775808≤wdI (zbk ws ps) y∧wdI (zbk ws ps) y≤9223372036854775807:=fun y=>by have:=zhl h y;omega
 simp only[Ino.map,zfx,List.mem_cons,List.not_mem_nil,or_false] at hz
 rcases hz with rfl | rfl | rfl | rfl | rfl | rfl | rfl | rfl <;> exact all _
theorem zws (n:Int):(zoh n).size≤6:=by
 unfold zoh
 split
 ·rename_i h;have:=(of_decide_eq_true h).2.2
  show ((zkx n.toNat).map fun d=>UInt8.ofNat (96+d)).toArray.size≤6
  simpa using this
 ·exact Nat.zero_le _
theorem zsk (ls:List Int) (k:Nat):(zjl ls k).name.size≤maxLen:=by
 unfold zjl
 split
 ·exact Nat.zero_le _
 ·have:=zws (wdI ls (240+3*(k:Int)+1))
  show (zoh _).size≤maxLen
  unfold maxLen;omega
theorem zzp (v:Value) (ws:List Int) (ps:List St) (z:Int) (w:World) (h:RdPm w v ws ps) (hp:pmB ws ps=true) (h0:0≤z∧z < 336) :
  Calls Tryz.prog 124 #[v,.int .i64 z] w fun e w'=>e=.returned (.int .i64 (wdI (zbk ws ps) z))∧Below w.heap.size w w':=by
 obtain ⟨n,rfl⟩:∃ n:Nat,z=(n:Int):=⟨z.toNat,by omega⟩
 obtain ⟨l1,l2⟩:=zll hp
 have hn:n < ws.length:=by omega
 rw[zzt (by rw[zhc];exact hn),zua ps ws n hn (fun p hq=>by obtain ⟨i,hi,rfl⟩:=List.getElem_of_mem hq;exact (zzv hp i hi).1)];exact zib v ws ps n w h (by omega) (by omega) hn
end Go.Proofs.YtbohndgbfbfldaaGreatDoor

namespace Go.Proofs.YtbohndgbfbfldaaGreatDoor
open Go.ChangeShapes Go.WideShapes Go.ChangeAt Go.RowKit Go.Joins
theorem own:ownKnob Tryz.prog.godebug=none:=by kernel_rfl
theorem zhz:laidOutB Tryz.prog=true:=by kernel_rfl
theorem zdp:Tryz.prog.cellsOf 3=1:=by kernel_rfl
theorem yaed:Tryz.prog.cellsOf 4=1:=by kernel_rfl
theorem zbl {α:Type} {P:Nat→α→Prop}:∀ (n:Nat),(∀ i,i < n→∃ x,P i x)→∃ l:List α,l.length=n∧∀ i (hi:i < l.length),P i l[i]
 | 0,_=>⟨[],rfl,fun i hi=>absurd hi (by simp)⟩
 | n+1,h=>by
  obtain ⟨l,hl,hp⟩:=zbl n (fun i hi=>h i (by omega));obtain ⟨x,hx⟩:=h n (by omega);refine ⟨l ++ [x],by simp[hl],fun i hi=>?_⟩
  by_cases e:i < l.length
  ·rw[List.getElem_append_left e];exact hp i e
  ·have e':i=n:=by simp at hi;omega
   subst e';rw[List.getElem_append_right (by omega)];simpa[hl] using hx
section
variable {H:Type} {enc:TypeId×Value→H} {W:World} {sp:Nat→Bool} {held:Bool} {fuel:Nat} {v:Value} {y:DataW H×List MemPlace}
theorem zhd (h:DataW.trod enc Tryz.prog W 0 sp held fuel 22 [v]=some y):∃ zs:List Int,RdI W v zs∧zs.length≤maxLen∧∀ z∈zs,(Lit.int .i64 z).wf=true:=by
 rcases open_ints Tryz.underlying22 Tryz.underlying3 zdp h with ⟨hcs,_⟩ | ⟨a,len,cap,zs,hcs,_,hl,hm,hz,_,hcell,hwz⟩
 ·simp only[List.cons.injEq,and_true] at hcs;subst hcs;exact ⟨[],⟨rfl,none,0,rfl,⟨Nat.le_refl _,fun _=>rfl⟩,fun h=>absurd h (by simp)⟩,by simp,fun z hz=>by simp at hz⟩
 ·simp only[List.cons.injEq,and_true] at hcs;subst hcs
  have hzl:len≤zs.length:=by rw[hz];split <;> omega
  have e:(zs.take len).length=len:=by simp;omega
  refine ⟨zs.take len,⟨by simp[zdi],some a,cap,by rw[e],⟨by rw[e];exact hl,fun e=>by cases e⟩,fun hn=>?_⟩,by rw[e];omega,fun z hz=>hwz z (List.mem_of_mem_take hz)⟩;rw[e] at hn;obtain ⟨b,off,spot⟩:=a;have hc:=hcell 0 (by omega)
  have hspot:spot=none:=by simpa[Addr.add] using World.cell?_spot hc
  subst hspot;refine ⟨b,off,rfl,World.block_lt_of_cell? W _ (by simpa[Addr.add] using hc),fun j hj=>?_⟩;rw[e] at hj;have hc:=hcell j (by omega);rw[Addr.add_lit] at hc;rw[hc,zde _ j (by rw[e];omega)];simp[List.getD,show j < zs.length by omega]
end
end Go.Proofs.YtbohndgbfbfldaaGreatDoor
