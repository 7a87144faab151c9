/- Several texts laid together: NmU, RdA, PmUnsure, PmUnsureI, Crash. -/
import Derived.Test.YtahiphgmhndgaaaGreatDoorZAI
import Derived.Test.YtahiphgmhndgaaaGreatDoorZAT
import Derived.Test.YtahiphgmhndgaaaGreatDoorZAD
import Derived.Deep.DeepCutAuto
set_option maxRecDepth 100000
set_option maxHeartbeats 4000000
namespace Go.Proofs.YtahiphgmhndgaaaGreatDoor
open Go.RowKit
def arrD (ds:List Nat) (j:Nat):Value:=if j < 6 - ds.length then .int .u8 0 else .int .u8 (96+((ds[j - (6 - ds.length)]?.getD 0:Nat):Int))
theorem yanm (j:Nat) (h:j < 6):arrD [] j=.int .u8 0:=by unfold arrD;rw[if_pos (by simpa using h)]
theorem yahj (d:Nat) (ds:List Nat) (h:ds.length < 6) (j:Nat):(if j=6 - ds.length - 1 then Value.int .u8 (96+(d:Int)) else arrD ds j)=arrD (d :: ds) j:=by
 unfold arrD
 by_cases e:j=6 - ds.length - 1
 ·subst e;rw[if_pos rfl,if_neg (by simp only[List.length_cons];omega)];simp only[List.length_cons];rw[show 6 - ds.length - 1 - (6 - (ds.length+1))=0 by omega];rfl
 ·rw[if_neg e];simp only[List.length_cons]
  by_cases e2:j < 6 - ds.length
  ·rw[if_pos e2,if_pos (by omega)]
  ·rw[if_neg e2,if_neg (by omega),show j - (6 - (ds.length+1))=(j - (6 - ds.length))+1 by omega];rfl
theorem yafp (ds:List Nat):strOfNums (ds.map fun d=>(96:Int)+(d:Nat))=zcu ds:=by
 unfold strOfNums zcu;rw[List.map_map]
 congr 2
theorem yavj (w:World) (b l:Nat) (h1:1≤l) (h6:l≤6):(Instr.sliceAt 245 (.pointer (some ⟨b,0,none⟩)) (some (.int .i64 (6 - (l:Int)))) none none).run Tryz.prog w=.ok (.slice (some ⟨b,6 - l,none⟩) l l) w:=by
 have al:Tryz.prog.arrayLen 245=6:=by kernel_rfl
 rw[run_sliceAt_array_l w 245 ⟨b,0,none⟩ (by kernel_rfl) .i64 (6 - (l:Int)) (by omega) (by rw[al];omega),al]
 have sz:(sizeOf (Tryz.prog.elem 245)).run Tryz.prog w=.ok 1 w:=by kernel_rfl
 rw[sz];simp only[Result.andThen,slicedAt];rw[if_neg (by omega),show (6 - (l:Int)).toNat=6 - l by omega,show 6 - (6 - l)=l by omega,Nat.mul_one];simp[Addr.add];omega
theorem zkl (n:Int) (w:World) (hn:n≤9223372036854775807):Calls Tryz.prog 215 #[.int .i64 n] w fun e w'=>e=.returned (.tuple #[.string (zzm n),.int .i64 (unpC n)])∧Below w.heap.size w w':=by
 by_cases c0:n < 1
 ·have E:=zaa (yabk (yaaw (n:=n) (by omega)));go_enter Tryz.func215,Tryz.ntmps215;go_wp2;go_ret2;exact ⟨yacc E.o.1.symm E.o.2.symm,Below.refl _ _⟩
 obtain ⟨N,rfl⟩:=Int.eq_ofNat_of_zero_le (show 0≤n by omega)
 have START:Hid ((w.alloc (.cells #[.int .u8 0,.int .u8 0,.int .u8 0,.int .u8 0,.int .u8 0,.int .u8 0] 245)).rowIs w.heap.size 245 6 (arrD [])):=by
  refine World.rowIs_alloc w #[.int .u8 0,.int .u8 0,.int .u8 0,.int .u8 0,.int .u8 0,.int .u8 0] 245 (arrD []) (fun i hi=>?_);have hi':i < 6:=hi;rw[yanm i hi']
  rcases (show i=0∨i=1∨i=2∨i=3∨i=4∨i=5 by omega) with rfl | rfl | rfl | rfl | rfl | rfl <;> rfl
 have BH:Hid (Below w.heap.size w (w.alloc (.cells #[.int .u8 0,.int .u8 0,.int .u8 0,.int .u8 0,.int .u8 0,.int .u8 0] 245))):=(Below.refl _ _).alloc (Nat.le_refl _) _;go_enter Tryz.func215,Tryz.ntmps215;go_wp2
 go_loopw [0,5,6] (fun x f _ wr=>∃ (m:Nat) (ds:List Nat),x=.int .i64 (m:Int)∧f=.int .i64 (6 - (ds.length:Int))∧m≤N∧ds.length≤6∧Hid (Dg N m ds)∧Hid (wr.rowIs w.heap.size 245 6 (arrD ds))∧Hid (Below w.heap.size w wr)) (fun x _ _ _=>(intOf x).toNat)
 case atStart=>exact ⟨N,[],rfl,rfl,Nat.le_refl _,by simp,Dg.start N,START.o,BH.o⟩
 case round =>
  obtain ⟨m,ds,rfl,rfl,hm,hl,D,R,B⟩:=hrel
  by_cases c1:0 < m
  ·have m0:(0:Int) < (m:Int):=by omega
   by_cases c2:m % 27=0
   ·have E:=zaa (yabk (yadm D.o c1 c2))
    have c2':((m:Int) % 27 == 0)=true:=by rw[beq_iff_eq];omega
    go_wp2;go_ret2;exact ⟨yacc E.o.1.symm E.o.2.symm,B.o⟩
   ·have c2':((m:Int) % 27 == 0)=false:=by rw[beq_eq_false_iff_ne];omega
    by_cases c3:6≤ds.length
    ·have E:=zaa (yabk (yapt D.o c1 c3))
     have c3':((6:Int) - (ds.length:Int) == 0)=true:=by rw[beq_iff_eq];omega
     go_wp2;go_ret2;exact ⟨yacc E.o.1.symm E.o.2.symm,B.o⟩
    ·have c3':((6:Int) - (ds.length:Int) == 0)=false:=by rw[beq_eq_false_iff_ne];omega
     have D2:=zaa (D.o.step c1 c2);have g0:=R.o.frozen (6 - ds.length - 1);have g1:=R.o.cell (show 6 - ds.length - 1 < 6 by omega);generalize hv:arrD ds (6 - ds.length - 1)=v0 at g1
     have ev:(97+(m:Int) % 27 - 1)=96+((m % 27:Nat):Int):=by omega
     have R2:Hid ((wr.setCell ⟨w.heap.size,6 - ds.length - 1,none⟩ (.int .u8 (97+(m:Int) % 27 - 1))).rowIs w.heap.size 245 6 (arrD (m % 27 :: ds))):=by
      rw[ev];exact (R.o.set (6 - ds.length - 1) (.int .u8 (96+((m % 27:Nat):Int)))).congr (fun j _=>yahj (m % 27) ds (by omega) j)
     have B2:Hid (Below w.heap.size w (wr.setCell ⟨w.heap.size,6 - ds.length - 1,none⟩ (.int .u8 (97+(m:Int) % 27 - 1)))):=B.o.setCell (by simp only;omega) _;clear ev;clear hv;go_wp2
     go_roundw
     case rel=>exact ⟨m / 27,m % 27 :: ds,by go_num,by go_num,by omega,by simp;omega,D2.o,R2.o,B2.o⟩
     case measure=>simp[intOf];omega
  ·obtain rfl:m=0:=by omega
   have E:=zaa (yaqc D.o (by omega) hl)
   have hconv:=fun cap=>run_convert_bytes_arg (P:=Tryz.prog) wr 197 5 Tryz.underlying197 Tryz.underlying5 w.heap.size (6 - ds.length) ds.length cap (ds.map fun d=>(96:Int)+(d:Nat)) (by simp) (fun i hi=>by
    rw[R.o.cell (show 6 - ds.length+i < 6 by omega)];unfold arrD;rw[if_neg (by omega),show 6 - ds.length+i - (6 - ds.length)=i by omega]
    simp[List.getD,hi]) 9 Tryz.underlying9
   rw[yafp] at hconv
   have l1:1≤ds.length:=by
    have:=yalm (n:=N) (by omega);rw[D.o.done] at this;exact this
   have hsl:=yavj wr w.heap.size ds.length l1 hl;have hcv:=hconv ds.length;clear hconv;go_wp2;go_ret2;exact ⟨yacc E.o.1.symm E.o.2.symm,B.o⟩
theorem zve (n:Int) (w:World) (hn:n≤9223372036854775807):Calls Tryz.prog 154 #[.int .i64 n] w fun e w'=>(∃ s,e=.returned (.tuple #[.string s,.bool (zgo n)])∧(zgo n=true→s=zzm n))∧Below w.heap.size w w':=by
 obtain ⟨N,hN,hN2,hN3⟩:∃ N:Nat,(0 < n→n=(N:Int))∧(¬ 0 < n→N=0)∧N≤9223372036854775807:=⟨n.toNat,fun h=>by omega,fun h=>by omega,by omega⟩
 have hdl:(zul N).length≤14:=yano 14 N (by omega);go_enter Tryz.func154,Tryz.ntmps154;go_wp2
 go_loopw [0,4,5] (fun x o _ wr=>∃ (y:Int) (ds:List Nat),x=.int .i64 y∧o=.string (zcu ds)∧y≤9223372036854775807∧Hid ((0 < n→∃ m:Nat,y=(m:Int)∧Dg N m ds)∧(¬ 0 < n→¬ 0 < y∧ds=[]))∧Hid (Below w.heap.size w wr)) (fun x _ _ _=>(intOf x).toNat)
 case atStart=>exact ⟨n,[],rfl,rfl,hn,⟨fun h=>⟨N,hN h,Dg.start N⟩,fun h=>⟨h,rfl⟩⟩,Below.refl _ _⟩
 case round =>
  obtain ⟨y,ds,rfl,rfl,hy,D,B⟩:=hrel
  by_cases c1:0 < y
  ·have hp:0 < n:=by
    rcases Decidable.em (0 < n) with h | h
    ·exact h
    ·exact absurd c1 (D.o.2 h).1
   obtain ⟨m,rfl,D1⟩:=D.o.1 hp;have D0:=zaa D1;clear D D1
   by_cases c2:m % 27=0
   ·have E:Hid (zgo n=false):=by
     rw[hN hp];exact yadm D0.o (by omega) c2
    have c2':((m:Int) % 27 == 0)=true:=by rw[beq_iff_eq];omega
    go_wp2;go_ret2;exact ⟨⟨_,yarj rfl E.o.symm,fun h=>by rw[E.o] at h;cases h⟩,B.o⟩
   ·have c2':((m:Int) % 27 == 0)=false:=by rw[beq_eq_false_iff_ne];omega
    have D2:=zaa (D0.o.step (by omega) c2);have hl14:ds.length≤14:=Nat.le_trans D0.o.len hdl
    have hcv:=run_convert_bytes_arg (P:=Tryz.prog) (wr.alloc (.cells #[.int .u8 (97+(m:Int) % 27 - 1)] 5)) 197 5 Tryz.underlying197 Tryz.underlying5 wr.heap.size 0 1 1 [97+(m:Int) % 27 - 1] rfl (fun i hi=>by
     obtain rfl:i=0:=by omega
     exact World.cell?_alloc_mark wr #[.int .u8 (97+(m:Int) % 27 - 1)] 5 (0,0) 0) 9 Tryz.underlying9
    have eb:strOfNums [97+(m:Int) % 27 - 1]=⟨#[UInt8.ofNat (96+m % 27)]⟩:=by
     unfold strOfNums;simp only[List.map_cons,List.map_nil];rw[show (97+(m:Int) % 27 - 1).toNat=96+m % 27 by omega]
    rw[eb] at hcv;have had:=run_string_add_sum (P:=Tryz.prog) (wr.alloc (.cells #[.int .u8 (97+(m:Int) % 27 - 1)] 5)) ⟨#[UInt8.ofNat (96+m % 27)]⟩ (zcu ds) (by rw[zch];show 1+_≤_;omega);rw[zxw] at had;have B2:Hid (Below w.heap.size w (wr.alloc (.cells #[.int .u8 (97+(m:Int) % 27 - 1)] 5))):=B.o.alloc B.o.size _;clear eb;generalize hbb:(⟨#[UInt8.ofNat (96+m % 27)]⟩:ByteArray)=bb at hcv had;clear hbb;go_wp2
    go_roundw
    case rel=>exact ⟨(m:Int) / 27,m % 27 :: ds,rfl,rfl,by omega,⟨fun _=>⟨m / 27,by omega,D2.o⟩,fun h=>absurd hp h⟩,B2.o⟩
    case measure=>simp[intOf];omega
  ·have LEN:Hid (ds.length≤14∧nmB (zcu ds)=zgo n∧(zgo n=true→zcu ds=zzm n)):=by
    rcases Decidable.em (0 < n) with hp | hp
    ·obtain ⟨m,em,D1⟩:=D.o.1 hp
     obtain rfl:m=0:=by omega
     have en:=hN hp;have hl:=D1.len;have hd:=D1.done;refine ⟨by omega,?_,fun h=>?_⟩
     ·by_cases c6:ds.length≤6
      ·have h1:1≤ds.length:=by rw[← hd];exact yalm (by omega)
       rw[yaaq D1.ok h1 c6,en];exact (decide_eq_true ⟨by omega,by rw[Int.toNat_natCast,hd];exact fun d x=>(D1.ok d x).1,by rw[Int.toNat_natCast,hd];exact c6⟩).symm
      ·rw[ztx (by rw[zch];omega),en];exact (decide_eq_false (fun x=>by have:=x.2.2;rw[Int.toNat_natCast,hd] at this;omega)).symm
     ·unfold zzm;rw[if_pos h,en,Int.toNat_natCast,hd]
    ·obtain ⟨_,rfl⟩:=D.o.2 hp;refine ⟨by simp,?_,fun h=>?_⟩
     ·rw[zyd (by rw[zch];simp),yaaw hp]
     ·rw[yaaw hp] at h;cases h
   have hsz:(zcu ds).size≤maxLen:=by
    have:=LEN.o.1;rw[zch];unfold maxLen;omega
   go_wp2_with (go_at_call 179;refine (zft _ _ hsz).mono ?_;rintro e w' ⟨rfl,rfl⟩);go_ret2;exact ⟨⟨_,yarj rfl LEN.o.2.1,LEN.o.2.2⟩,B.o⟩
def wdI (ls:List Int) (z:Int):Int:=ls.getD z.toNat 0
theorem yaqo {ls:List Int} {n:Nat} (h:n < ls.length):wdI ls (n:Int)=ls[n]:=by
 unfold wdI;rw[Int.toNat_natCast,List.getD_eq_getElem?_getD,List.getElem?_eq_getElem h];rfl
def zmc (ls:List Int) (i:Nat):Ino:=⟨wdI ls (48+12*(i:Int)),wdI ls (48+12*(i:Int)+1),wdI ls (48+12*(i:Int)+2),wdI ls (48+12*(i:Int)+3),wdI ls (48+12*(i:Int)+4),wdI ls (48+12*(i:Int)+5),wdI ls (48+12*(i:Int)+6),wdI ls (48+12*(i:Int)+7),wdI ls (48+12*(i:Int)+8),wdI ls (48+12*(i:Int)+9),wdI ls (48+12*(i:Int)+10)⟩
def zrr (ls:List Int) (k:Nat):Den:=if wdI ls (240+3*(k:Int)+2)=0 then ⟨0,⟨#[]⟩,-1⟩ else ⟨wdI ls (240+3*(k:Int)),zzm (wdI ls (240+3*(k:Int)+1)),wdI ls (240+3*(k:Int)+2) - 1⟩
def zda (ls:List Int) (k:Nat):Bool:=if wdI ls (240+3*(k:Int)+2)=0 then wdI ls (240+3*(k:Int)) == 0 && wdI ls (240+3*(k:Int)+1) == 0 else zgo (wdI ls (240+3*(k:Int)+1))
def zbm (ls:List Int) (n:Nat):List Ino:=(List.range n).map (zmc ls)
def zbw (ls:List Int) (n:Nat):List Den:=(List.range n).map (zrr ls)
def zfa (ls:List Int) (n:Nat):Bool:=(List.range n).all (zda ls)
theorem zpz (ls:List Int) (n:Nat):zbm ls (n+1)=zbm ls n ++ [zmc ls n]:=by unfold zbm;rw[List.range_succ,List.map_append];rfl
theorem zjr (ls:List Int) (n:Nat):zbw ls (n+1)=zbw ls n ++ [zrr ls n]:=by unfold zbw;rw[List.range_succ,List.map_append];rfl
theorem zbn (ls:List Int) (n:Nat):(zbm ls n).length=n:=by simp[zbm]
theorem zbh (ls:List Int) (n:Nat):(zbw ls n).length=n:=by simp[zbw]
theorem zip {ls:List Int} {n k:Nat} (hk:k < n) (h:zda ls k=false):zfa ls n=false:=by
 unfold zfa;rw[List.all_eq_false];exact ⟨k,List.mem_range.2 hk,by rw[h];simp⟩
theorem zpa {ls:List Int} {n:Nat} (h:∀ k,k < n→zda ls k=true):zfa ls n=true:=by
 unfold zfa;rw[List.all_eq_true];intro k hk;exact h k (List.mem_range.1 hk)
def riB (ls:List Int):Bool:=wdI ls 0 == 7 && (zfa ls 24 && zti (zbm ls 16) (zbw ls 24))
def riC (ws:List Int) (ps:List St):Int:=if pmB ws ps=true then (if riB (zcq ws ps)=true then 0 else 3) else 1
def riN (ws:List Int) (ps:List St):List Ino:=if riC ws ps=0 then zbm (zcq ws ps) 16 else []
def riD (ws:List Int) (ps:List St):List Den:=if riC ws ps=0 then zbw (zcq ws ps) 24 else []
theorem yanf {ws:List Int} {ps:List St} (h:pmB ws ps=true):∀ k (h:k < (zcq ws ps).length),zao (zcq ws ps)[k]=true:=by
 have h1:=ztk h
 have h2:∀ p∈ps,zao p.val=true:=fun p hp=>by
  obtain ⟨i,hi,rfl⟩:=List.getElem_of_mem hp;exact (zhj h i hi).2
 clear h
 have gen:∀ (ps:List St) (ws:List Int),(∀ x∈ws,zao x=true)→(∀ p∈ps,zao p.val=true)→∀ x∈zcq ws ps,zao x=true:=by
  intro ps
  induction ps with
  | nil=>intro ws h _ x hx;exact h x hx
  | cons p ps ih =>
   intro ws h1 h2 x hx;refine ih (ws.set p.at_.toNat p.val) (fun y hy=>?_) (fun q hq=>h2 q (List.mem_cons_of_mem _ hq)) x hx
   rcases List.mem_or_eq_of_mem_set hy with hy | hy
   ·exact h1 y hy
   ·rw[hy];exact h2 p (List.mem_cons_self ..)
 intro k hk;exact gen ps ws (fun x hx=>by obtain ⟨i,hi,rfl⟩:=List.getElem_of_mem hx;exact h1 i hi) h2 _ (List.getElem_mem hk)
theorem zow {ws:List Int} {ps:List St} (h:pmB ws ps=true) (z:Int):0≤wdI (zcq ws ps) z∧wdI (zcq ws ps) z < 1099511627776:=by
 unfold wdI;rw[List.getD_eq_getElem?_getD]
 by_cases c:z.toNat < (zcq ws ps).length
 ·rw[List.getElem?_eq_getElem c];have:=yanf h _ c;unfold zao at this;simp at this;simpa using this
 ·rw[List.getElem?_eq_none (by omega)];exact ⟨by simp,by simp⟩
theorem yaru {ws:List Int} {ps:List St} (h:pmB ws ps=true) (i:Nat):(zmc (zcq ws ps) i).R:=by
 intro z hz
 have all:∀ y,-9223372036854775808≤wdI (zcq ws ps) y∧wdI (zcq ws ps) y≤9223372036854775807:=fun y=>by have:=zow h y;omega
 simp only[Ino.map,zmc,List.mem_cons,List.not_mem_nil,or_false] at hz
 rcases hz with rfl | rfl | rfl | rfl | rfl | rfl | rfl | rfl <;> exact all _
theorem yaoa (n:Int):(zzm n).size≤6:=by
 unfold zzm
 split
 ·rename_i h;have:=(of_decide_eq_true h).2.2
  show ((zul n.toNat).map fun d=>UInt8.ofNat (96+d)).toArray.size≤6
  simpa using this
 ·exact Nat.zero_le _
theorem yafv (ls:List Int) (k:Nat):(zrr ls k).name.size≤maxLen:=by
 unfold zrr
 split
 ·exact Nat.zero_le _
 ·have:=yaoa (wdI ls (240+3*(k:Int)+1))
  show (zzm _).size≤maxLen
  unfold maxLen;omega
theorem yaqn (v:Value) (ws:List Int) (ps:List St) (z:Int) (w:World) (h:RdPm w v ws ps) (hp:pmB ws ps=true) (h0:0≤z∧z < 336) :
  Calls Tryz.prog 110 #[v,.int .i64 z] w fun e w'=>e=.returned (.int .i64 (wdI (zcq ws ps) z))∧Below w.heap.size w w':=by
 obtain ⟨n,rfl⟩:∃ n:Nat,z=(n:Int):=⟨z.toNat,by omega⟩
 obtain ⟨l1,l2⟩:=zbz hp
 have hn:n < ws.length:=by omega
 rw[yaqo (by rw[zoe];exact hn),yajv ps ws n hn (fun p hq=>by obtain ⟨i,hi,rfl⟩:=List.getElem_of_mem hq;exact (zsz hp i hi).1)];exact zji v ws ps n w h (by omega) (by omega) hn
def zgg (ps:List St) (k:Nat):Bool:=ps.any (fun p=>p.at_ == (k:Int))
def zbg (ps:List St) (m:Nat):List Nat:=(List.range m).filter (zgg ps)
def zhg (ps:List St) (m:Nat):List Int:=(zbg ps m).map (fun (k:Nat)=>(k:Int))
theorem zyx (ps:List St) (m:Nat):zbg ps (m+1)=if zgg ps m=true then zbg ps m ++ [m] else zbg ps m:=by
 unfold zbg;rw[List.range_succ,List.filter_append]
 by_cases h:zgg ps m=true
 ·rw[if_pos h];simp[h]
 ·rw[if_neg h];simp[h]
theorem yaef {ps:List St} {m:Nat} (h:zgg ps m=true):zhg ps (m+1)=zhg ps m ++ [(m:Int)]:=by
 unfold zhg;rw[zyx,if_pos h,List.map_append];rfl
theorem zxd {ps:List St} {m:Nat} (h:zgg ps m=false):zhg ps (m+1)=zhg ps m:=by
 unfold zhg;rw[zyx,if_neg (by rw[h];simp)]
theorem zuv (ps:List St) (m:Nat):(zhg ps m).length≤m:=by
 unfold zhg zbg;rw[List.length_map];have:=List.length_filter_le (zgg ps) (List.range m);simpa using this
theorem yahd {ps:List St} {m j:Nat} (hj:j < ps.length) (h:ps[j].at_=(m:Int)):zgg ps m=true:=by
 unfold zgg;rw[List.any_eq_true];exact ⟨ps[j],List.getElem_mem hj,by simpa using h⟩
theorem yafc {ps:List St} {m:Nat} (h:∀ j (hj:j < ps.length),¬ ps[j].at_=(m:Int)):zgg ps m=false:=by
 unfold zgg;rw[List.any_eq_false];intro p hp;obtain ⟨i,hi,rfl⟩:=List.getElem_of_mem hp;simpa using h i hi
theorem zvo (v:Value) (ws:List Int) (ps:List St) (w:World) (h:RdPm w v ws ps) (hp:ps.length≤1048576) :
  Calls Tryz.prog 112 #[v] w fun e w'=>∃ v',e=.returned v'∧Row w' 3 1 w.heap.size w'.heap.size v' (zhg ps 336).length (zav (zhg ps 336))∧Below w.heap.size w w':=by
 obtain ⟨vW,vP,rfl,h1,h2⟩:=h;obtain ⟨aW,cW,rfl,_⟩:=h1.shape;obtain ⟨aP,cP,rfl,_,hcP⟩:=h2.shape;have HP:=zaa hcP;clear h1 h2 hcP;have hb0:Below w.heap.size w (w.alloc (.cells #[.slice aW ws.length cW,.slice aP ps.length cP] 40)):=(Below.refl _ _).alloc (Nat.le_refl _) _
 have ho:((w.alloc (.cells #[.slice aW ws.length cW,.slice aP ps.length cP] 40)).alloc (.cells #[] 3)).ownsRow (w.heap.size+1) 3 1 (.slice (some ⟨w.heap.size+1,0,none⟩) 0 0) 0 []:=by
  simpa using World.ownsRow_lit (base:=w.heap.size+1) (e:=3) (size:=1) (w.alloc (.cells #[.slice aW ws.length cW,.slice aP ps.length cP] 40)) #[] 0 (by simp) (by simp) rfl
 have START:=zaa (And.intro ho (And.intro (zal (o:=.cells #[] 3) (zag (w:=w) (o:=.cells #[.slice aW ws.length cW,.slice aP ps.length cP] 40) rfl)) (hb0.alloc (by simp) (.cells #[] 3))));clear hb0 ho;go_enter Tryz.func112,Tryz.ntmps112;go_wp2
 go_loopw [3,4,5] (fun vL i _ wr=>∃ m:Nat,m≤336∧i=.int .i64 m∧Hid (wr.ownsRow (w.heap.size+1) 3 1 vL (zhg ps m).length (zav (zhg ps m))∧wr.heap[w.heap.size]?=some (.cells #[.slice aW ws.length cW,.slice aP ps.length cP] 40 (0,0))∧Below w.heap.size w wr)∧w.heap.size+1≤wr.heap.size) (fun _ i _ _=>336 - (intOf i).toNat)
 case atStart=>exact ⟨0,by omega,rfl,⟨by simpa[zhg,zbg,zav] using START.o.1,START.o.2⟩,by simp⟩
 case round =>
  obtain ⟨m,hm,rfl,I,hz⟩:=hrel;obtain ⟨y1,y2,y3,y4⟩:=zad I.o.2.1
  by_cases hlt:m < 336
  ·go_wp2
   go_loop [3,5] (fun vL i=>∃ n:Nat,n≤ps.length∧i=.int .i64 n∧vL=u3∧Hid (∀ j (hj:j < ps.length),j < n→¬ ps[j].at_=(m:Int))) (fun _ i=>ps.length - (intOf i).toNat)
   case atStart=>exact ⟨0,by omega,rfl,rfl,fun j _ h=>absurd h (by omega)⟩
   case round =>
    obtain ⟨n,hn,rfl,rfl,H⟩:=hrel
    by_cases hlt2:n < ps.length
    ·obtain ⟨b,o,rfl,hbl,hcell⟩:=HP.o (by omega);have d0:=(I.o.2.2.cell (p:=⟨b,o+n*3,none⟩) hbl).trans (hcell n hlt2).1;clear hcell
     by_cases c:ps[n].at_=(m:Int)
     ·have c':(ps[n].at_ == (m:Int))=true:=by simpa using c
      have E:=zaa (yaef (yahd hlt2 c));clear c H;have O2:=zaa (I.o.1.alloc (.cells #[.int .i64 (m:Int)] 3));have HRD:=zaa (zmo wr (m:Int));have hle:=zuv ps m;go_wp2_with (at_builtin;refine zak _ rfl (.tmp 26) (.tmp 28) 22 rfl (w.heap.size+1) 3 (.int .i64 0) 1 8 Tryz.underlying22 zfz rfl (by decide) _ _ _ rfl O2.o _ 1 _ rfl HRD.o (by simp[Value.oneCell']) (by simp[maxLen];omega) (by omega) (by simp;omega) ?_);intro vN wN hownN hgrN
      have hl:=fun k hk=>(O2.o.lt k hk).1
      have hzN:=hgrN.size;simp only[World.size_alloc] at hzN
      have G:Hid (wN.ownsRow (w.heap.size+1) 3 1 vN (zhg ps (m+1)).length (zav (zhg ps (m+1)))∧wN.heap[w.heap.size]?=some (.cells #[.slice aW ws.length cW,.slice (some ⟨b,o,none⟩) ps.length cP] 40 (0,0))∧Below w.heap.size w wN):=by
       refine ⟨?_,(hgrN.block w.heap.size (by simp;omega) (fun e=>by have:=hl _ e.symm;omega)).trans (zal I.o.2.1),(I.o.2.2.alloc (by omega) (.cells #[.int .i64 (m:Int)] 3)).grown hgrN (by simp;omega) (fun k hk=>by have:=hl k hk;omega)⟩;rw[E.o,zhq,List.length_append];exact hownN
      clear hownN hgrN hl;go_wp2
      go_roundw
      case rel=>exact ⟨m+1,by omega,by go_num,G,by omega⟩
      case measure=>simp[intOf];omega
     ·have c':(ps[n].at_ == (m:Int))=false:=by simpa using c
      have C:=zaa c;clear c;go_wp2
      go_round
      case rel =>
       refine ⟨n+1,by omega,by go_num,rfl,fun j hj hjn=>?_⟩
       by_cases e:j=n
       ·subst e;exact C.o
       ·exact H.o j hj (by omega)
      case measure=>simp[intOf];omega
    ·have E:=zaa (zxd (yafc (fun j hj=>H.o j hj (by omega))));clear H;go_wp2
     go_roundw
     case rel=>exact ⟨m+1,by omega,by go_num,by rw[E.o];exact I,hz⟩
     case measure=>simp[intOf];omega
  ·have e:m=336:=by omega
   subst e;obtain ⟨aL,cL,hvL⟩:=RdI.form (zai I.o.1).rd rfl;subst hvL;go_wp2;go_ret;exact ⟨_,rfl,(zai I.o.1).wide (by omega) (Nat.le_refl _),I.o.2.2⟩
def unsZ (ws:List Int) (ps:List St):List Int:=if pmB ws ps=true then zhg ps 336 else []
theorem yalw {ws:List Int} {ps:List St} (h:pmB ws ps=false):zrl ws ps=1∧unsZ ws ps=[]:=by
 unfold zrl unsZ;rw[h];exact ⟨rfl,rfl⟩
theorem yahh {ws:List Int} {ps:List St} (h:pmB ws ps=true):zrl ws ps=0∧unsZ ws ps=zhg ps 336:=by
 unfold zrl unsZ;rw[h];exact ⟨rfl,rfl⟩
def zkt:Array Value:=(List.replicate 336 (Value.bool false)).toArray
theorem yafa (w:World):(zeroValue 200).run Tryz.prog w=.ok (.agg zkt) w:=by kernel_rfl
theorem zon:zkt.size=336:=by unfold zkt;rw[List.size_toArray,List.length_replicate]
theorem yajf (k:Nat) (hk:k < 336):zkt[k]?=some (.bool false):=by unfold zkt;rw[List.getElem?_toArray,List.getElem?_replicate,if_pos hk]
theorem zuc (cs:Array Value) (k:Nat) (v:Value) (hk:k < 336) (hv:cs[k]?=some v) (w:World):(Instr.index 200 (.agg cs) (.int .i64 (k:Int))).run Tryz.prog w=.ok v w:=by
 obtain ⟨i,hi,_,hs,_⟩:=info_parts (P:=Tryz.prog) (e:=4) (z:=.bool false) (size:=1) (bytes:=1) (by kernel_rfl);simp[Instr.index,run_underlying Tryz.underlying200,run_underlying Tryz.underlying4,asIntOf,part,sizeOf,typeInfo,isAgg,hi,hs,hv,go_sem];omega
theorem yage (ps:List St) (p:St) (k:Nat) (h0:0≤p.at_):zgg (ps ++ [p]) k=if k=p.at_.toNat then true else zgg ps k:=by
 unfold zgg;rw[List.any_append]
 by_cases e:k=p.at_.toNat
 ·rw[if_pos e]
  have:(p.at_ == (k:Int))=true:=by rw[e];simp;omega
  simp[this]
 ·rw[if_neg e]
  have:(p.at_ == (k:Int))=false:=by simp;omega
  simp[this]
theorem zfb (v:Value) (ws:List Int) (ps:List St) (w:World) (h:RdPm w v ws ps) (hw:ws.length≤1048576) (hp:ps.length≤1048576) :
  Calls Tryz.prog 133 #[v] w fun e w'=>∃ v',e=.returned (.tuple #[v',.int .i64 (zrl ws ps)])∧Row w' 3 1 w.heap.size w'.heap.size v' (unsZ ws ps).length (zav (unsZ ws ps))∧Below w.heap.size w w':=by
 have HR:=zaa h;obtain ⟨vW,vP,rfl,h1,h2⟩:=h;obtain ⟨aW,cW,rfl,_⟩:=h1.shape;obtain ⟨aP,cP,rfl,_,hcP⟩:=h2.shape;have HP:=zaa hcP;clear h1 h2 hcP;have hb0:Below w.heap.size w (w.alloc (.cells #[.slice aW ws.length cW,.slice aP ps.length cP] 40)):=(Below.refl _ _).alloc (Nat.le_refl _) _
 by_cases hc:pmB ws ps=true
 ·obtain ⟨e1,e2⟩:=yahh hc;rw[e1,e2];clear e1 e2;have OK:=zaa (zsz hc);go_enter Tryz.func133,Tryz.ntmps133;go_wp2_with fail;refine (zba _ ws ps _ (HR.o.below hb0) hw hp).mono ?_;rintro e w1 ⟨rfl,hb1⟩
  have hz1:w.heap.size+1≤w1.heap.size:=by have:=hb1.size;simp at this;omega
  have V0:=(hb1.block w.heap.size (by simp <;> omega)).trans (zag rfl);obtain ⟨x1,x2,x3,x4⟩:=zad V0;have B1:=zaa (zab hb0 hb1 (by simp <;> omega));have VH:=zaa V0;clear hb0 hb1 V0;have hal:=yafa
  have START:Hid ((w1.alloc (.cells zkt 200)).rowIs w1.heap.size 200 336 (fun k=>.bool (zgg (ps.take 0) k))):=by
   have:=World.rowIs_alloc w1 zkt 200 (fun k=>.bool (zgg (ps.take 0) k)) (fun k hk=>by rw[zon] at hk;rw[yajf k hk];rfl);rw[zon] at this;exact this
  obtain ⟨z1,z2,z3,z4⟩:=zad (zal (o:=.cells zkt 200) VH.o);have BS:=zaa (B1.o.alloc (by omega) (.cells zkt 200));clear x1 x2 x3 x4;go_wp2;clear hal
  go_loopw [6,16] (fun _ i wr=>∃ m:Nat,m≤ps.length∧i=.int .i64 m∧wr.rowIs w1.heap.size 200 336 (fun k=>.bool (zgg (ps.take m) k))∧Below w.heap.size w wr∧w1.heap.size+1≤wr.heap.size) (fun _ i _=>ps.length - (intOf i).toNat)
  case atStart=>exact ⟨0,by omega,rfl,START.o,BS.o,by simp⟩
  case round =>
   obtain ⟨m,hm,rfl,hrow,hb,hz⟩:=hrel
   by_cases hlt:m < ps.length
   ·obtain ⟨b,o,rfl,hbl,hcell⟩:=HP.o (by omega);obtain ⟨e0,e1,e2⟩:=hcell m hlt;have d0:=(hb.cell (p:=⟨b,o+m*3,none⟩) hbl).trans e0;have d1:=(hb.cell (p:=⟨b,o+m*3+1,none⟩) hbl).trans e1;have d2:=(hb.cell (p:=⟨b,o+m*3+2,none⟩) hbl).trans e2;obtain ⟨q0,q1⟩:=OK.o m hlt;have hrow2:=hrow.alloc (.cells #[.int .i64 ps[m].at_,.int .i64 ps[m].val,.bool ps[m].fl] 147);have g0:=hrow2.frozen ps[m].at_.toNat;have g1:=hrow2.cell (i:=ps[m].at_.toNat) (by omega);have F:=zaa (hrow2.set ps[m].at_.toNat (.bool true));have G:=zaa ((hb.alloc (by omega) (.cells #[.int .i64 ps[m].at_,.int .i64 ps[m].val,.bool ps[m].fl] 147)).setCell (p:=⟨w1.heap.size,ps[m].at_.toNat,none⟩) (by simp only;omega) (.bool true));clear hrow hrow2 hcell e0 e1 e2;go_wp2
    go_roundw
    case rel =>
     refine ⟨m+1,by omega,by go_num,F.o.congr (fun k hk=>?_),G.o,by simp;omega⟩
     show (if k=ps[m].at_.toNat then Value.bool true else Value.bool (zgg (ps.take m) k))=_
     rw[zbd ps m hlt,yage _ _ _ q0]
     split <;> rfl
    case measure=>simp[intOf];omega
   ·have e:m=ps.length:=by omega
    subst e;rw[List.take_length] at hrow;obtain ⟨cs,hheap,hcs,hat⟩:=hrow;have HH:=zaa hheap;have HA:=zaa hat
    have hsz:(Tryz.prog.info? 200).map (·.size)=some cs.size:=by rw[hcs];kernel_rfl
    have SZ:=zaa hsz;clear hheap hat hsz hcs;go_wp2_with (refine wpList_load_row rfl 200 _ rfl w1.heap.size rfl 200 cs (0,0) _ HH.o Tryz.underlying200 rfl SZ.o ?_)
    go_loopw [7,8,9,25] (fun vL _ _ i wx=>∃ m:Nat,m≤336∧i=.int .i64 m∧wx.ownsRow (w1.heap.size+1) 3 1 vL (zhg ps m).length (zav (zhg ps m))∧Below w.heap.size w wx∧w1.heap.size+1≤wx.heap.size) (fun _ _ _ i _=>336 - (intOf i).toNat)
    case atStart=>exact ⟨0,by omega,rfl,World.ownsRow_nil _ _ _ _,hb,hz⟩
    case round =>
     obtain ⟨m,hm,rfl,hown,hbx,hzx⟩:=hrel
     by_cases hlt:m < 336
     ·have hix:=zuc cs m (.bool (zgg ps m)) hlt (HA.o m hlt)
      cases hh:zgg ps m
      ·rw[hh] at hix;have E:=zaa (zxd hh);have O:=zaa hown;clear hown hh;go_wp2
       go_roundw
       case rel=>exact ⟨m+1,by omega,by go_num,by rw[E.o];exact O.o,hbx,hzx⟩
       case measure=>simp[intOf];omega
      ·rw[hh] at hix;have E:=zaa (yaef hh);have O2:=zaa (hown.alloc (.cells #[.int .i64 (m:Int)] 3));have HRD:=zaa (zmo wr (m:Int));have hle:=zuv ps m;clear hown hh;go_wp2_with (at_builtin;refine zak _ rfl (.tmp 30) (.tmp 32) 22 rfl (w1.heap.size+1) 3 (.int .i64 0) 1 8 Tryz.underlying22 zfz rfl (by decide) _ _ _ rfl O2.o _ 1 _ rfl HRD.o (by simp[Value.oneCell']) (by simp[maxLen];omega) (by omega) (by simp;omega) ?_);intro vN wN hownN hgrN
       have hl:=fun k hk=>(O2.o.lt k hk).1
       have hzN:=hgrN.size;simp only[World.size_alloc] at hzN
       have G:Hid (wN.ownsRow (w1.heap.size+1) 3 1 vN (zhg ps (m+1)).length (zav (zhg ps (m+1)))∧Below w.heap.size w wN):=by
        refine ⟨?_,(hbx.alloc (by omega) (.cells #[.int .i64 (m:Int)] 3)).grown hgrN (by simp;omega) (fun k hk=>by have:=hl k hk;omega)⟩;rw[E.o,zhq,List.length_append];exact hownN
       clear hownN hgrN hl;go_wp2
       go_roundw
       case rel=>exact ⟨m+1,by omega,by go_num,G.o.1,G.o.2,by omega⟩
       case measure=>simp[intOf];omega
     ·have e:m=336:=by omega
      subst e;obtain ⟨aL,cL,hvL⟩:=RdI.form (zai hown).rd rfl;subst hvL;have O:=zaa hown;clear hown;go_wp2;go_ret2;exact ⟨_,rfl,(zai O.o).wide (by omega) (Nat.le_refl _),hbx⟩
 ·have hc':pmB ws ps=false:=by simpa using hc
  clear hc;obtain ⟨e1,e2⟩:=yalw hc';rw[e1,e2];clear e1 e2;go_enter Tryz.func133,Tryz.ntmps133;go_wp2_with fail;refine (zba _ ws ps _ (HR.o.below hb0) hw hp).mono ?_;rintro e w1 ⟨rfl,hb1⟩;have B1:=zaa (zab hb0 hb1 (by simp <;> omega));clear hb0 hb1;go_wp2;go_ret2;exact ⟨_,rfl,Row.nil _ _ _ _ _,B1.o⟩
end Go.Proofs.YtahiphgmhndgaaaGreatDoor

namespace Go.Proofs.YtahiphgmhndgaaaGreatDoor
def zhf (a:Nat) (s:Int×Int) (p:St):Int×Int:=if p.at_=(a:Int)∧0 < s.2 then (p.val,s.2 - 1) else s
def zed (a:Nat) (s:Int×Int) (ps:List St):Int×Int:=ps.foldl (zhf a) s
theorem yaij (a:Nat) (s:Int×Int):zed a s []=s:=rfl
theorem zsq (a:Nat) (s:Int×Int) (ps:List St) (p:St):zed a s (ps ++ [p])=zhf a (zed a s ps) p:=by simp[zed]
theorem zwp (a:Nat) (s:Int×Int) (ps qs:List St):zed a s (ps ++ qs)=zed a (zed a s ps) qs:=by simp[zed]
theorem zim {a:Nat} {s:Int×Int} (h:¬ 0 < s.2):∀ ps:List St,zed a s ps=s
 | []=>rfl
 | p :: ps=>by
  show zed a (zhf a s p) ps=s
  have e:zhf a s p=s:=by unfold zhf;rw[if_neg (fun x=>h x.2)]
  rw[e];exact zim h ps
theorem zhk {a:Nat}:∀ (ps:List St) (s:Int×Int),0≤s.2→0≤(zed a s ps).2∧(zed a s ps).2≤s.2
 | [],s,h=>⟨h,Int.le_refl _⟩
 | p :: ps,s,h=>by
  show 0≤(zed a (zhf a s p) ps).2∧(zed a (zhf a s p) ps).2≤s.2
  have h1:0≤(zhf a s p).2∧(zhf a s p).2≤s.2:=by
   unfold zhf
   split
   ·rename_i c;exact ⟨by have:=c.2;show 0≤s.2 - 1;omega,by show s.2 - 1≤s.2;omega⟩
   ·exact ⟨h,Int.le_refl _⟩
  have:=zhk (a:=a) ps (zhf a s p) h1.1;omega
def spW (us:List Nat) (zs:List Int) (ps:List St) (ws:List Int):Nat→List Int
 | 0=>ws
 | i+1=>(spW us zs ps ws i).set (us[i]?.getD 0) (zed (us[i]?.getD 0) ((spW us zs ps ws i)[us[i]?.getD 0]?.getD 0,zck zs i) ps).1
theorem zhp (us:List Nat) (zs:List Int) (ps:List St) (ws:List Int):∀ i,(spW us zs ps ws i).length=ws.length
 | 0=>rfl
 | i+1=>by rw[spW,List.length_set];exact zhp us zs ps ws i
def lfF (us:List Nat) (zs:List Int):Nat→Nat→Int
 | 0,_=>0
 | i+1,a=>if a=us[i]?.getD 0 then zck zs i else lfF us zs i a
theorem yadk {us:List Nat} {zs:List Int} {a:Nat}:∀ (i:Nat),(∀ j,j < i→¬ a=us[j]?.getD 0)→lfF us zs i a=0
 | 0,_=>rfl
 | i+1,h=>by
  rw[lfF,if_neg (h i (by omega))];exact yadk i (fun j hj=>h j (by omega))
theorem yaqq (us:List Nat) (zs:List Int) (ps:List St) (ws:List Int) (hus:∀ i j,j < i→i < us.length→¬ us[i]?.getD 0=us[j]?.getD 0) :
  ∀ (i:Nat),i≤us.length→∀ a,a < ws.length→(spW us zs ps ws i)[a]?.getD 0=(zed a (ws[a]?.getD 0,lfF us zs i a) ps).1
 | 0,_,a,_=>by
  show ws[a]?.getD 0=(zed a (ws[a]?.getD 0,0) ps).1
  rw[zim (by simp)]
 | i+1,hi,a,ha=>by
  have ih:=yaqq us zs ps ws hus i (by omega);rw[spW,lfF]
  by_cases e:a=us[i]?.getD 0
  ·rw[if_pos e];subst e
   have hl:us[i]?.getD 0 < (spW us zs ps ws i).length:=by rw[zhp];exact ha
   have e0:(spW us zs ps ws i)[us[i]?.getD 0]?.getD 0=ws[us[i]?.getD 0]?.getD 0:=by
    rw[ih _ ha,yadk i (fun j hj=>hus i j hj (by omega)),zim (by simp)]
   rw[List.getElem?_set_self hl,Option.getD_some,e0]
  ·rw[if_neg e,List.getElem?_set_ne (fun h=>e h.symm)];exact ih a ha
def zzn (s:List Int×(Nat→Int)) (p:St):List Int×(Nat→Int):=if 0 < s.2 p.at_.toNat then (s.1.set p.at_.toNat p.val,fun j=>if j=p.at_.toNat then s.2 j - 1 else s.2 j) else s
def imS (s:List Int×(Nat→Int)) (ps:List St):List Int×(Nat→Int):=ps.foldl zzn s
theorem yacn (s:List Int×(Nat→Int)) (ps:List St) (p:St):imS s (ps ++ [p])=zzn (imS s ps) p:=by simp[imS]
theorem yadh (s:List Int×(Nat→Int)) (p:St):(zzn s p).1.length=s.1.length:=by
 unfold zzn
 split <;> simp
theorem ztr:∀ (ps:List St) (s:List Int×(Nat→Int)),(imS s ps).1.length=s.1.length
 | [],_=>rfl
 | p :: ps,s=>by
  show (imS (zzn s p) ps).1.length=s.1.length
  rw[ztr ps,yadh]
theorem yate (s:List Int×(Nat→Int)) (p:St) (h0:0≤p.at_) (a:Nat) (ha:a < s.1.length):(((zzn s p).1)[a]?.getD 0,(zzn s p).2 a)=zhf a (s.1[a]?.getD 0,s.2 a) p:=by
 unfold zzn zhf
 by_cases e:p.at_=(a:Int)
 ·have e':p.at_.toNat=a:=by omega
  rw[e']
  by_cases c:0 < s.2 a
  ·rw[if_pos c,if_pos ⟨e,c⟩];simp[ha]
  ·rw[if_neg c,if_neg (fun h=>c h.2)]
 ·have e':¬ p.at_.toNat=a:=by omega
  have e'':¬ a=p.at_.toNat:=fun h=>e' h.symm
  rw[if_neg (fun h:p.at_=(a:Int)∧0 < s.2 a=>e h.1)]
  split
  ·simp[e'',List.getElem?_set_ne e']
  ·rfl
theorem yakj:∀ (ps:List St) (s:List Int×(Nat→Int)) (_:∀ p∈ps,0≤p.at_) (a:Nat) (_:a < s.1.length),(((imS s ps).1)[a]?.getD 0,(imS s ps).2 a)=zed a (s.1[a]?.getD 0,s.2 a) ps
 | [],_,_,_,_=>rfl
 | p :: ps,s,h0,a,ha=>by
  show (((imS (zzn s p) ps).1)[a]?.getD 0,(imS (zzn s p) ps).2 a)=zed a (zhf a (s.1[a]?.getD 0,s.2 a) p) ps
  rw[yakj ps (zzn s p) (fun q hq=>h0 q (by simp[hq])) a (by rw[yadh];exact ha),yate s p (h0 p (by simp)) a ha]
theorem zyb {l l':List Int} (hl:l.length=l'.length) (h:∀ a,a < l.length→l[a]?.getD 0=l'[a]?.getD 0):l=l':=by
 apply List.ext_getElem hl;intro i h1 h2;have:=h i h1;simpa[h1,h2] using this
theorem yaen (us:List Nat) (zs:List Int) (ps:List St) (ws:List Int) (hus:∀ i j,j < i→i < us.length→¬ us[i]?.getD 0=us[j]?.getD 0) (h0:∀ p∈ps,0≤p.at_) :
  (imS (ws,lfF us zs us.length) ps).1=spW us zs ps ws us.length:=by
 apply zyb
 ·rw[ztr,zhp]
 ·intro a ha;rw[ztr] at ha;have:=yakj ps (ws,lfF us zs us.length) h0 a ha;rw[yaqq us zs ps ws hus us.length (Nat.le_refl _) a ha];exact congrArg Prod.fst this
theorem zds (f:Nat→Bool):∀ (n i j:Nat),j < i→i < ((List.range n).filter f).length→((List.range n).filter f)[j]?.getD 0 < ((List.range n).filter f)[i]?.getD 0
 | 0,i,j,_,hi=>by simp at hi
 | n+1,i,j,hj,hi=>by
  rw[List.range_succ,List.filter_append] at hi ⊢
  by_cases hf:f n=true
  ·have e:[n].filter f=[n]:=by simp[hf]
   rw[e] at hi ⊢;rw[List.length_append,List.length_singleton] at hi
   have hlt:∀ k,k < ((List.range n).filter f).length→((List.range n).filter f)[k]?.getD 0 < n:=by
    intro k hk;rw[List.getElem?_eq_getElem hk,Option.getD_some];have:=List.getElem_mem hk;rw[List.mem_filter,List.mem_range] at this;exact this.1
   by_cases hi2:i < ((List.range n).filter f).length
   ·rw[List.getElem?_append_left (by omega),List.getElem?_append_left hi2];exact zds f n i j hj hi2
   ·have ei:i=((List.range n).filter f).length:=by omega
    rw[List.getElem?_append_left (by omega),List.getElem?_append_right (by omega),ei,Nat.sub_self];exact hlt j (by omega)
  ·have e:[n].filter f=[]:=by simp[hf]
   rw[e,List.append_nil] at hi ⊢;exact zds f n i j hj hi
theorem yaew (ps:List St) (n:Nat):∀ i j,j < i→i < (zbg ps n).length→¬ (zbg ps n)[i]?.getD 0=(zbg ps n)[j]?.getD 0:=by
 intro i j hj hi e;have:=zds (zgg ps) n i j hj hi;unfold zbg at e;omega
theorem yajk (ps:List St) (n i:Nat) (hi:i < (zbg ps n).length):(zbg ps n)[i]?.getD 0 < n:=by
 rw[List.getElem?_eq_getElem hi,Option.getD_some];have:=List.getElem_mem hi;unfold zbg at this;rw[List.mem_filter,List.mem_range] at this;exact this.1
theorem zdy (ps:List St) (n:Nat):(zhg ps n).length=(zbg ps n).length:=by simp[zhg]
theorem yaat (ps:List St) (n i:Nat) (hi:i < (zhg ps n).length):(zhg ps n)[i]=(((zbg ps n)[i]?.getD 0:Nat):Int):=by
 have h2:i < (zbg ps n).length:=by rw[← zdy];exact hi
 rw[List.getElem?_eq_getElem h2,Option.getD_some];simp[zhg]
end Go.Proofs.YtahiphgmhndgaaaGreatDoor
