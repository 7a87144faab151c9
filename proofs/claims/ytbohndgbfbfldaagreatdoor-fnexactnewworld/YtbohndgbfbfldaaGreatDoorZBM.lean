/- Several texts laid together: PmSeen, NmU, RdA, OpenA, JrC. -/
import Derived.Test.YtbohndgbfbfldaaGreatDoorZAP
import Derived.Test.YtbohndgbfbfldaaGreatDoorZAD
import Derived.Test.YtbohndgbfbfldaaGreatDoorZAE
import Derived.Test.YtbohndgbfbfldaaGreatDoorZBL
import Derived.Test.YtbohndgbfbfldaaGreatDoorIntS
import Derived.ProofKit
import Derived.OpenShut
import Derived.ShutString
import Derived.ChangeOld
import Derived.Lib.SmallJoins
import Derived.Deep.Slices
import Derived.Deep.Strs
set_option maxRecDepth 100000
set_option maxHeartbeats 4000000
namespace Go.Proofs.YtbohndgbfbfldaaGreatDoor
open Go.RowKit
def zcq (ws:List Int) (ps:List St):List Int:=ps.foldl (fun acc p=>acc.set p.at_.toNat p.val) ws
theorem zvf (ws:List Int) (ps:List St) (p:St):zcq ws (ps ++ [p])=(zcq ws ps).set p.at_.toNat p.val:=by simp[zcq]
theorem zkv (ws:List Int):∀ ps:List St,(zcq ws ps).length=ws.length:=by
 intro ps;unfold zcq
 induction ps generalizing ws with
 | nil=>rfl
 | cons p ps ih=>rw[List.foldl_cons,ih];simp
def zts (ws:List Int) (ps:List St):Int:=if pmB ws ps=true then 0 else 1
def zrr (ws:List Int) (ps:List St):List Int:=if pmB ws ps=true then zcq ws ps else []
theorem zqw {ws:List Int} {ps:List St} (h:pmB ws ps=false):zts ws ps=1∧zrr ws ps=[]:=by
 unfold zts zrr;rw[h];exact ⟨rfl,rfl⟩
theorem zui {ws:List Int} {ps:List St} (h:pmB ws ps=true):zts ws ps=0∧zrr ws ps=zcq ws ps:=by
 unfold zts zrr;rw[h];exact ⟨rfl,rfl⟩
theorem zjb (v:Value) (ws:List Int) (ps:List St) (w:World) (h:RdPm w v ws ps) (hw:ws.length≤1048576) (hp:ps.length≤1048576) :
  Calls Tryz.prog 192 #[v] w fun e w'=>∃ v',e=.returned (.tuple #[v',.int .i64 (zts ws ps)])∧Row w' 3 1 w.heap.size w'.heap.size v' (zrr ws ps).length (zbk (zrr ws ps))∧Below w.heap.size w w':=by
 have HR:=zaa h;obtain ⟨vW,vP,rfl,h1,h2⟩:=h;have H1:=zaa h1;obtain ⟨aW,cW,rfl,_⟩:=h1.shape;obtain ⟨aP,cP,rfl,_,hcP⟩:=h2.shape;have HP:=zaa hcP;clear h1 h2 hcP;have hb0:Below w.heap.size w (w.alloc (.cells #[.slice aW ws.length cW,.slice aP ps.length cP] 25)):=(Below.refl _ _).alloc (Nat.le_refl _) _
 by_cases hc:pmB ws ps=true
 ·obtain ⟨e1,e2⟩:=zui hc;rw[e1,e2];clear e1 e2;have OK:=zaa (yadq hc);go_enter Tryz.func192,Tryz.ntmps192;go_wp2_with fail;refine (zce _ ws ps _ (HR.o.below hb0) hw hp).mono ?_;rintro e w1 ⟨rfl,hb1⟩
  have hz1:w.heap.size+1≤w1.heap.size:=by have:=hb1.size;simp at this;omega
  have V0:=(hb1.block w.heap.size (by simp <;> omega)).trans (zae rfl);obtain ⟨x1,x2,x3,x4⟩:=zac V0;have B1:=zaa (zab hb0 hb1 (by simp <;> omega));have VH:=zaa V0;clear hb0 hb1 V0;go_wp2_with (at_builtin;refine zaq _ rfl (.const (.slice none 0 0)) (.tmp 11) 22 rfl w1.heap.size 3 (.int .i64 0) 1 8 Tryz.underlying22 zmd rfl (by decide) _ 0 [] rfl (World.ownsRow_nil _ _ _ _) _ ws.length (zbk ws) rfl (Rd.below H1.o B1.o) (zyv ws) (by simp[maxLen];omega) (by omega) (Nat.le_refl _) ?_);intro v2 w2 hown2 hgr2
  have hown2:w2.ownsRow w1.heap.size 3 1 v2 ws.length (zbk ws):=by simpa using hown2
  obtain ⟨aW2,cW2,rfl⟩:=RdI.form (zai hown2).rd rfl;have hz2:w1.heap.size≤w2.heap.size:=hgr2.size;have B2:=B1.o.grown hgr2 (by omega) (fun k hk=>by cases hk);have V0:=(hgr2.block w.heap.size (by omega) (by simp[Value.ownBlock])).trans VH.o;obtain ⟨z1,z2,z3,z4⟩:=zac V0;have START:=zaa (And.intro (zai hown2) B2);clear x1 x2 x3 x4 hown2 hgr2 B2 V0;go_wp2
  go_loopw [6,16] (fun _ i wr=>∃ m:Nat,m≤ps.length∧i=.int .i64 m∧Row wr 3 1 w1.heap.size w2.heap.size (.slice aW2 ws.length cW2) ws.length (zbk (zcq ws (ps.take m)))∧Below w.heap.size w wr∧w2.heap.size≤wr.heap.size) (fun _ i _=>ps.length - (intOf i).toNat)
  case atStart=>exact ⟨0,by omega,rfl,START.o.1,START.o.2,Nat.le_refl _⟩
  case round =>
   obtain ⟨m,hm,rfl,hrow,hb,hz⟩:=hrel
   by_cases hlt:m < ps.length
   ·obtain ⟨b,o,rfl,hbl,hcell⟩:=HP.o (by omega);obtain ⟨e0,e1,e2⟩:=hcell m hlt;have d0:=(hb.cell (p:=⟨b,o+m*3,none⟩) hbl).trans e0;have d1:=(hb.cell (p:=⟨b,o+m*3+1,none⟩) hbl).trans e1;have d2:=(hb.cell (p:=⟨b,o+m*3+2,none⟩) hbl).trans e2;obtain ⟨q0,q1⟩:=OK.o m hlt;obtain ⟨_,aw',cw',ew',_,hcw⟩:=hrow.rd
    cases ew'
    obtain ⟨bw,ow,rfl,hblw,_⟩:=hcw (by omega)
    obtain ⟨rfl,hb1,_,_,hfrw,hclw⟩:=(hrow.alloc hz (.cells #[.int .i64 ps[m].at_,.int .i64 ps[m].val,.bool ps[m].fl] 207)).at
    have hj:ps[m].at_.toNat < (zcq ws (ps.take m)).length:=by rw[zkv];omega
    have g0:=hfrw ps[m].at_.toNat;have g1:=(hclw ps[m].at_.toNat (by omega)).trans (zbs _ _ hj)
    have F:Hid (Row ((wr.setCell ⟨bw,ps[m].at_.toNat,none⟩ (.int .i64 ps[m].val)).alloc (.cells #[.int .i64 ps[m].at_,.int .i64 ps[m].val,.bool ps[m].fl] 207)) 3 1 w1.heap.size w2.heap.size (.slice (some ⟨bw,0,none⟩) ws.length cW2) ws.length (zbk (zcq ws (ps.take (m+1))))):=by
     rw[zhq ps m hlt,zvf,← zqz];exact (hrow.stored _ _).alloc (by simp;omega) _
    have G:=zaa ((hb.setCell (p:=⟨bw,ps[m].at_.toNat,none⟩) (by simp only;omega) (.int .i64 ps[m].val)).alloc (by simp;omega) (.cells #[.int .i64 ps[m].at_,.int .i64 ps[m].val,.bool ps[m].fl] 207));clear hrow hcell e0 e1 e2 hcw hfrw hclw;go_wp2
    go_roundw
    case rel=>exact ⟨m+1,by omega,by go_num,F.o,G.o,by simp;omega⟩
    case measure=>simp[intOf];omega
   ·have e:m=ps.length:=by omega
    subst e;have R:=zaa hrow;clear hrow;go_wp2;go_ret2;refine ⟨_,rfl,?_,hb⟩;have:=R.o;rw[List.take_length] at this;rw[zkv];exact this.wide (by omega) hz
 ·have hc':pmB ws ps=false:=by simpa using hc
  clear hc;obtain ⟨e1,e2⟩:=zqw hc';rw[e1,e2];clear e1 e2;go_enter Tryz.func192,Tryz.ntmps192;go_wp2_with fail;refine (zce _ ws ps _ (HR.o.below hb0) hw hp).mono ?_;rintro e w1 ⟨rfl,hb1⟩;have B1:=zaa (zab hb0 hb1 (by simp <;> omega));clear hb0 hb1;go_wp2;go_ret2;exact ⟨_,rfl,Row.nil _ _ _ _ _,B1.o⟩
def zvm (ds:List Nat) (j:Nat):Value:=if j < 6 - ds.length then .int .u8 0 else .int .u8 (96+((ds[j - (6 - ds.length)]?.getD 0:Nat):Int))
theorem zxw (j:Nat) (h:j < 6):zvm [] j=.int .u8 0:=by unfold zvm;rw[if_pos (by simpa using h)]
theorem zvg (d:Nat) (ds:List Nat) (h:ds.length < 6) (j:Nat):(if j=6 - ds.length - 1 then Value.int .u8 (96+(d:Int)) else zvm ds j)=zvm (d :: ds) j:=by
 unfold zvm
 by_cases e:j=6 - ds.length - 1
 ·subst e;rw[if_pos rfl,if_neg (by simp only[List.length_cons];omega)];simp only[List.length_cons];rw[show 6 - ds.length - 1 - (6 - (ds.length+1))=0 by omega];rfl
 ·rw[if_neg e];simp only[List.length_cons]
  by_cases e2:j < 6 - ds.length
  ·rw[if_pos e2,if_pos (by omega)]
  ·rw[if_neg e2,if_neg (by omega),show j - (6 - (ds.length+1))=(j - (6 - ds.length))+1 by omega];rfl
theorem zrg (ds:List Nat):strOfNums (ds.map fun d=>(96:Int)+(d:Nat))=zkz ds:=by
 unfold strOfNums zkz;rw[List.map_map]
 congr 2
theorem yaez (w:World) (b l:Nat) (h1:1≤l) (h6:l≤6):(Instr.sliceAt 259 (.pointer (some ⟨b,0,none⟩)) (some (.int .i64 (6 - (l:Int)))) none none).run Tryz.prog w=.ok (.slice (some ⟨b,6 - l,none⟩) l l) w:=by
 have al:Tryz.prog.arrayLen 259=6:=by kernel_rfl
 rw[run_sliceAt_array_l w 259 ⟨b,0,none⟩ (by kernel_rfl) .i64 (6 - (l:Int)) (by omega) (by rw[al];omega),al]
 have sz:(sizeOf (Tryz.prog.elem 259)).run Tryz.prog w=.ok 1 w:=by kernel_rfl
 rw[sz];simp only[Result.andThen,slicedAt];rw[if_neg (by omega),show (6 - (l:Int)).toNat=6 - l by omega,show 6 - (6 - l)=l by omega,Nat.mul_one];simp[Addr.add];omega
theorem zfl (n:Int) (w:World) (hn:n≤9223372036854775807):Calls Tryz.prog 211 #[.int .i64 n] w fun e w'=>e=.returned (.tuple #[.string (zsy n),.int .i64 (unpC n)])∧Below w.heap.size w w':=by
 by_cases c0:n < 1
 ·have E:=zaa (zpn (yacd (n:=n) (by omega)));go_enter Tryz.func211,Tryz.ntmps211;go_wp2;go_ret2;exact ⟨zqf E.o.1.symm E.o.2.symm,Below.refl _ _⟩
 obtain ⟨N,rfl⟩:=Int.eq_ofNat_of_zero_le (show 0≤n by omega)
 have START:Hid ((w.alloc (.cells #[.int .u8 0,.int .u8 0,.int .u8 0,.int .u8 0,.int .u8 0,.int .u8 0] 259)).rowIs w.heap.size 259 6 (zvm [])):=by
  refine World.rowIs_alloc w #[.int .u8 0,.int .u8 0,.int .u8 0,.int .u8 0,.int .u8 0,.int .u8 0] 259 (zvm []) (fun i hi=>?_);have hi':i < 6:=hi;rw[zxw i hi']
  rcases (show i=0∨i=1∨i=2∨i=3∨i=4∨i=5 by omega) with rfl | rfl | rfl | rfl | rfl | rfl <;> rfl
 have BH:Hid (Below w.heap.size w (w.alloc (.cells #[.int .u8 0,.int .u8 0,.int .u8 0,.int .u8 0,.int .u8 0,.int .u8 0] 259))):=(Below.refl _ _).alloc (Nat.le_refl _) _;go_enter Tryz.func211,Tryz.ntmps211;go_wp2
 go_loopw [0,5,6] (fun x f _ wr=>∃ (m:Nat) (ds:List Nat),x=.int .i64 (m:Int)∧f=.int .i64 (6 - (ds.length:Int))∧m≤N∧ds.length≤6∧Hid (Dg N m ds)∧Hid (wr.rowIs w.heap.size 259 6 (zvm ds))∧Hid (Below w.heap.size w wr)) (fun x _ _ _=>(intOf x).toNat)
 case atStart=>exact ⟨N,[],rfl,rfl,Nat.le_refl _,by simp,Dg.start N,START.o,BH.o⟩
 case round =>
  obtain ⟨m,ds,rfl,rfl,hm,hl,D,R,B⟩:=hrel
  by_cases c1:0 < m
  ·have m0:(0:Int) < (m:Int):=by omega
   by_cases c2:m % 27=0
   ·have E:=zaa (zpn (zyw D.o c1 c2))
    have c2':((m:Int) % 27 == 0)=true:=by rw[beq_iff_eq];omega
    go_wp2;go_ret2;exact ⟨zqf E.o.1.symm E.o.2.symm,B.o⟩
   ·have c2':((m:Int) % 27 == 0)=false:=by rw[beq_eq_false_iff_ne];omega
    by_cases c3:6≤ds.length
    ·have E:=zaa (zpn (zyo D.o c1 c3))
     have c3':((6:Int) - (ds.length:Int) == 0)=true:=by rw[beq_iff_eq];omega
     go_wp2;go_ret2;exact ⟨zqf E.o.1.symm E.o.2.symm,B.o⟩
    ·have c3':((6:Int) - (ds.length:Int) == 0)=false:=by rw[beq_eq_false_iff_ne];omega
     have D2:=zaa (D.o.step c1 c2);have g0:=R.o.frozen (6 - ds.length - 1);have g1:=R.o.cell (show 6 - ds.length - 1 < 6 by omega);generalize hv:zvm ds (6 - ds.length - 1)=v0 at g1
     have ev:(97+(m:Int) % 27 - 1)=96+((m % 27:Nat):Int):=by omega
     have R2:Hid ((wr.setCell ⟨w.heap.size,6 - ds.length - 1,none⟩ (.int .u8 (97+(m:Int) % 27 - 1))).rowIs w.heap.size 259 6 (zvm (m % 27 :: ds))):=by
      rw[ev];exact (R.o.set (6 - ds.length - 1) (.int .u8 (96+((m % 27:Nat):Int)))).congr (fun j _=>zvg (m % 27) ds (by omega) j)
     have B2:Hid (Below w.heap.size w (wr.setCell ⟨w.heap.size,6 - ds.length - 1,none⟩ (.int .u8 (97+(m:Int) % 27 - 1)))):=B.o.setCell (by simp only;omega) _;clear ev;clear hv;go_wp2
     go_roundw
     case rel=>exact ⟨m / 27,m % 27 :: ds,by go_num,by go_num,by omega,by simp;omega,D2.o,R2.o,B2.o⟩
     case measure=>simp[intOf];omega
  ·obtain rfl:m=0:=by omega
   have E:=zaa (zxg D.o (by omega) hl)
   have hconv:=fun cap=>run_convert_bytes_arg (P:=Tryz.prog) wr 203 5 Tryz.underlying203 Tryz.underlying5 w.heap.size (6 - ds.length) ds.length cap (ds.map fun d=>(96:Int)+(d:Nat)) (by simp) (fun i hi=>by
    rw[R.o.cell (show 6 - ds.length+i < 6 by omega)];unfold zvm;rw[if_neg (by omega),show 6 - ds.length+i - (6 - ds.length)=i by omega]
    simp[List.getD,hi]) 9 Tryz.underlying9
   rw[zrg] at hconv
   have l1:1≤ds.length:=by
    have:=yada (n:=N) (by omega);rw[D.o.done] at this;exact this
   have hsl:=yaez wr w.heap.size ds.length l1 hl;have hcv:=hconv ds.length;clear hconv;go_wp2;go_ret2;exact ⟨zqf E.o.1.symm E.o.2.symm,B.o⟩
def wdI (ls:List Int) (z:Int):Int:=ls.getD z.toNat 0
theorem yaes {ls:List Int} {n:Nat} (h:n < ls.length):wdI ls (n:Int)=ls[n]:=by
 unfold wdI;rw[Int.toNat_natCast,List.getD_eq_getElem?_getD,List.getElem?_eq_getElem h];rfl
def zln (ls:List Int) (i:Nat):Ino:=⟨wdI ls (48+12*(i:Int)),wdI ls (48+12*(i:Int)+1),wdI ls (48+12*(i:Int)+2),wdI ls (48+12*(i:Int)+3),wdI ls (48+12*(i:Int)+4),wdI ls (48+12*(i:Int)+5),wdI ls (48+12*(i:Int)+6),wdI ls (48+12*(i:Int)+7),wdI ls (48+12*(i:Int)+8),wdI ls (48+12*(i:Int)+9),wdI ls (48+12*(i:Int)+10)⟩
def zom (ls:List Int) (k:Nat):Den:=if wdI ls (240+3*(k:Int)+2)=0 then ⟨0,⟨#[]⟩,-1⟩ else ⟨wdI ls (240+3*(k:Int)),zsy (wdI ls (240+3*(k:Int)+1)),wdI ls (240+3*(k:Int)+2) - 1⟩
def zdg (ls:List Int) (k:Nat):Bool:=if wdI ls (240+3*(k:Int)+2)=0 then wdI ls (240+3*(k:Int)) == 0 && wdI ls (240+3*(k:Int)+1) == 0 else zgo (wdI ls (240+3*(k:Int)+1))
def zbj (ls:List Int) (n:Nat):List Ino:=(List.range n).map (zln ls)
def zbp (ls:List Int) (n:Nat):List Den:=(List.range n).map (zom ls)
def zey (ls:List Int) (n:Nat):Bool:=(List.range n).all (zdg ls)
theorem zop (ls:List Int) (n:Nat):zbj ls (n+1)=zbj ls n ++ [zln ls n]:=by unfold zbj;rw[List.range_succ,List.map_append];rfl
theorem zph (ls:List Int) (n:Nat):zbp ls (n+1)=zbp ls n ++ [zom ls n]:=by unfold zbp;rw[List.range_succ,List.map_append];rfl
theorem zcr (ls:List Int) (n:Nat):(zbj ls n).length=n:=by simp[zbj]
theorem zco (ls:List Int) (n:Nat):(zbp ls n).length=n:=by simp[zbp]
theorem zro {ls:List Int} {n k:Nat} (hk:k < n) (h:zdg ls k=false):zey ls n=false:=by
 unfold zey;rw[List.all_eq_false];exact ⟨k,List.mem_range.2 hk,by rw[h];simp⟩
theorem zpv {ls:List Int} {n:Nat} (h:∀ k,k < n→zdg ls k=true):zey ls n=true:=by
 unfold zey;rw[List.all_eq_true];intro k hk;exact h k (List.mem_range.1 hk)
def riB (ls:List Int):Bool:=wdI ls 0 == 7 && (zey ls 24 && zsz (zbj ls 16) (zbp ls 24))
def riC (ws:List Int) (ps:List St):Int:=if pmB ws ps=true then (if riB (zcq ws ps)=true then 0 else 3) else 1
def riN (ws:List Int) (ps:List St):List Ino:=if riC ws ps=0 then zbj (zcq ws ps) 16 else []
def riD (ws:List Int) (ps:List St):List Den:=if riC ws ps=0 then zbp (zcq ws ps) 24 else []
theorem zzc {ws:List Int} {ps:List St} (h:pmB ws ps=true):∀ k (h:k < (zcq ws ps).length),zar (zcq ws ps)[k]=true:=by
 have h1:=zyn h
 have h2:∀ p∈ps,zar p.val=true:=fun p hp=>by
  obtain ⟨i,hi,rfl⟩:=List.getElem_of_mem hp;exact (znv h i hi).2
 clear h
 have gen:∀ (ps:List St) (ws:List Int),(∀ x∈ws,zar x=true)→(∀ p∈ps,zar p.val=true)→∀ x∈zcq ws ps,zar x=true:=by
  intro ps
  induction ps with
  | nil=>intro ws h _ x hx;exact h x hx
  | cons p ps ih =>
   intro ws h1 h2 x hx;refine ih (ws.set p.at_.toNat p.val) (fun y hy=>?_) (fun q hq=>h2 q (List.mem_cons_of_mem _ hq)) x hx
   rcases List.mem_or_eq_of_mem_set hy with hy | hy
   ·exact h1 y hy
   ·rw[hy];exact h2 p (List.mem_cons_self ..)
 intro k hk;exact gen ps ws (fun x hx=>by obtain ⟨i,hi,rfl⟩:=List.getElem_of_mem hx;exact h1 i hi) h2 _ (List.getElem_mem hk)
theorem zmt {ws:List Int} {ps:List St} (h:pmB ws ps=true) (z:Int):0≤wdI (zcq ws ps) z∧wdI (zcq ws ps) z < 1099511627776:=by
 unfold wdI;rw[List.getD_eq_getElem?_getD]
 by_cases c:z.toNat < (zcq ws ps).length
 ·rw[List.getElem?_eq_getElem c];have:=zzc h _ c;unfold zar at this;simp at this;simpa using this
 ·rw[List.getElem?_eq_none (by omega)];exact ⟨by simp,by simp⟩
theorem yadl {ws:List Int} {ps:List St} (h:pmB ws ps=true) (i:Nat):(zln (zcq ws ps) i).R:=by
 intro z hz
 have all:∀ y,-9223372036854775808≤wdI (zcq ws ps) y∧wdI (zcq ws ps) y≤9223372036854775807:=fun y=>by have:=zmt h y;omega
 simp only[Ino.map,zln,List.mem_cons,List.not_mem_nil,or_false] at hz
 rcases hz with rfl | rfl | rfl | rfl | rfl | rfl | rfl | rfl <;> exact all _
theorem zzn (n:Int):(zsy n).size≤6:=by
 unfold zsy
 split
 ·rename_i h;have:=(of_decide_eq_true h).2.2
  show ((zoj n.toNat).map fun d=>UInt8.ofNat (96+d)).toArray.size≤6
  simpa using this
 ·exact Nat.zero_le _
theorem zsa (ls:List Int) (k:Nat):(zom ls k).name.size≤maxLen:=by
 unfold zom
 split
 ·exact Nat.zero_le _
 ·have:=zzn (wdI ls (240+3*(k:Int)+1))
  show (zsy _).size≤maxLen
  unfold maxLen;omega
end Go.Proofs.YtbohndgbfbfldaaGreatDoor

namespace Go.Proofs.YtbohndgbfbfldaaGreatDoor
open Go.ChangeShapes Go.WideShapes Go.ChangeAt Go.RowKit Go.Joins
theorem own:ownKnob Tryz.prog.godebug=none:=by kernel_rfl
theorem zky:laidOutB Tryz.prog=true:=by kernel_rfl
theorem zme:Tryz.prog.cellsOf 3=1:=by kernel_rfl
section
variable {H:Type} {enc:TypeId×Value→H} {W:World} {sp:Nat→Bool} {held:Bool} {fuel:Nat} {v:Value} {y:DataW H×List MemPlace}
end
end Go.Proofs.YtbohndgbfbfldaaGreatDoor

namespace Go.Proofs.YtbohndgbfbfldaaGreatDoor
open Go.RowKit
def ldW (ws:List Int) (ps:List St) (k:Nat):Int:=zhl (k:Int) (ws[k]?.getD 0) ps
end Go.Proofs.YtbohndgbfbfldaaGreatDoor
