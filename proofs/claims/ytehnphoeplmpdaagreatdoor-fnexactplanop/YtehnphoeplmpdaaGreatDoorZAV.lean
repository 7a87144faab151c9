/- Several texts laid together: RdA, IgF, IgH, OpenA, Open, MiS, JrD, MiL, MiT. -/
import Derived.Test.YtehnphoeplmpdaaGreatDoorZAU
import Derived.Test.YtehnphoeplmpdaaGreatDoorZAM
import Derived.Test.YtehnphoeplmpdaaGreatDoorZAB
import Derived.Test.YtehnphoeplmpdaaGreatDoorZAS
import Derived.Test.YtehnphoeplmpdaaGreatDoorZAA
import Derived.ProofKit
import Derived.OpenShut
import Derived.ShutString
import Derived.ChangeOld
import Derived.Lib.SmallJoins
import Derived.Deep.Slices
import Derived.Deep.Strs
import Derived.Test.YtehnphoeplmpdaaGreatDoorZAT
import Derived.Test.YtehnphoeplmpdaaGreatDoorZAE
import Derived.Test.YtehnphoeplmpdaaGreatDoorZAD
import Derived.Deep.RegionWith
set_option maxRecDepth 100000
set_option maxHeartbeats 2000000
namespace Go.Proofs.YtehnphoeplmpdaaGreatDoor
open Go.RowKit
def wdI (ls:List Int) (z:Int):Int:=ls.getD z.toNat 0
theorem yand {ls:List Int} {n:Nat} (h:n < ls.length):wdI ls (n:Int)=ls[n]:=by
 unfold wdI;rw[Int.toNat_natCast,List.getD_eq_getElem?_getD,List.getElem?_eq_getElem h];rfl
def zlm (ls:List Int) (i:Nat):Ino:=⟨wdI ls (48+12*(i:Int)),wdI ls (48+12*(i:Int)+1),wdI ls (48+12*(i:Int)+2),wdI ls (48+12*(i:Int)+3),wdI ls (48+12*(i:Int)+4),wdI ls (48+12*(i:Int)+5),wdI ls (48+12*(i:Int)+6),wdI ls (48+12*(i:Int)+7),wdI ls (48+12*(i:Int)+8),wdI ls (48+12*(i:Int)+9),wdI ls (48+12*(i:Int)+10)⟩
def zqn (ls:List Int) (k:Nat):Den:=if wdI ls (240+3*(k:Int)+2)=0 then ⟨0,⟨#[]⟩,-1⟩ else ⟨wdI ls (240+3*(k:Int)),zxk (wdI ls (240+3*(k:Int)+1)),wdI ls (240+3*(k:Int)+2) - 1⟩
def zck (ls:List Int) (k:Nat):Bool:=if wdI ls (240+3*(k:Int)+2)=0 then wdI ls (240+3*(k:Int)) == 0 && wdI ls (240+3*(k:Int)+1) == 0 else zgk (wdI ls (240+3*(k:Int)+1))
def zbk (ls:List Int) (n:Nat):List Ino:=(List.range n).map (zlm ls)
def zbq (ls:List Int) (n:Nat):List Den:=(List.range n).map (zqn ls)
def zee (ls:List Int) (n:Nat):Bool:=(List.range n).all (zck ls)
theorem zog (ls:List Int) (n:Nat):zbk ls (n+1)=zbk ls n ++ [zlm ls n]:=by unfold zbk;rw[List.range_succ,List.map_append];rfl
theorem zjt (ls:List Int) (n:Nat):zbq ls (n+1)=zbq ls n ++ [zqn ls n]:=by unfold zbq;rw[List.range_succ,List.map_append];rfl
theorem zbs (ls:List Int) (n:Nat):(zbk ls n).length=n:=by simp[zbk]
theorem zbj (ls:List Int) (n:Nat):(zbq ls n).length=n:=by simp[zbq]
theorem zik {ls:List Int} {n k:Nat} (hk:k < n) (h:zck ls k=false):zee ls n=false:=by
 unfold zee;rw[List.all_eq_false];exact ⟨k,List.mem_range.2 hk,by rw[h];simp⟩
theorem zpl {ls:List Int} {n:Nat} (h:∀ k,k < n→zck ls k=true):zee ls n=true:=by
 unfold zee;rw[List.all_eq_true];intro k hk;exact h k (List.mem_range.1 hk)
def riB (ls:List Int):Bool:=wdI ls 0 == 7 && (zee ls 24 && zay (zbk ls 16) (zbq ls 24))
def riC (ws:List Int) (ps:List St):Int:=if pmB ws ps=true then (if riB (zcj ws ps)=true then 0 else 3) else 1
def riN (ws:List Int) (ps:List St):List Ino:=if riC ws ps=0 then zbk (zcj ws ps) 16 else []
def riD (ws:List Int) (ps:List St):List Den:=if riC ws ps=0 then zbq (zcj ws ps) 24 else []
theorem yajs {ws:List Int} {ps:List St} (h:pmB ws ps=true):∀ k (h:k < (zcj ws ps).length),zbb (zcj ws ps)[k]=true:=by
 have h1:=yaln h
 have h2:∀ p∈ps,zbb p.val=true:=fun p hp=>by
  obtain ⟨i,hi,rfl⟩:=List.getElem_of_mem hp;exact (zvg h i hi).2
 clear h
 have gen:∀ (ps:List St) (ws:List Int),(∀ x∈ws,zbb x=true)→(∀ p∈ps,zbb p.val=true)→∀ x∈zcj ws ps,zbb x=true:=by
  intro ps
  induction ps with
  | nil=>intro ws h _ x hx;exact h x hx
  | cons p ps ih =>
   intro ws h1 h2 x hx;refine ih (ws.set p.at_.toNat p.val) (fun y hy=>?_) (fun q hq=>h2 q (List.mem_cons_of_mem _ hq)) x hx
   rcases List.mem_or_eq_of_mem_set hy with hy | hy
   ·exact h1 y hy
   ·rw[hy];exact h2 p (List.mem_cons_self ..)
 intro k hk;exact gen ps ws (fun x hx=>by obtain ⟨i,hi,rfl⟩:=List.getElem_of_mem hx;exact h1 i hi) h2 _ (List.getElem_mem hk)
theorem zpb {ws:List Int} {ps:List St} (h:pmB ws ps=true) (z:Int):0≤wdI (zcj ws ps) z∧wdI (zcj ws ps) z < 1099511627776:=by
 unfold wdI;rw[List.getD_eq_getElem?_getD]
 by_cases c:z.toNat < (zcj ws ps).length
 ·rw[List.getElem?_eq_getElem c];have:=yajs h _ c;unfold zbb at this;simp at this;simpa using this
 ·rw[List.getElem?_eq_none (by omega)];exact ⟨by simp,by simp⟩
theorem yaoo {ws:List Int} {ps:List St} (h:pmB ws ps=true) (i:Nat):(zlm (zcj ws ps) i).R:=by
 intro z hz
 have all:∀ y,-9223372036854775808≤wdI (zcj ws ps) y∧wdI (zcj ws ps) y≤9223372036854775807:=fun y=>by have:=zpb h y;omega
 simp only[Ino.map,zlm,List.mem_cons,List.not_mem_nil,or_false] at hz
 rcases hz with rfl | rfl | rfl | rfl | rfl | rfl | rfl | rfl <;> exact all _
theorem yakn (n:Int):(zxk n).size≤6:=by
 unfold zxk
 split
 ·rename_i h;have:=(of_decide_eq_true h).2.2
  show ((ztq n.toNat).map fun d=>UInt8.ofNat (96+d)).toArray.size≤6
  simpa using this
 ·exact Nat.zero_le _
theorem yade (ls:List Int) (k:Nat):(zqn ls k).name.size≤maxLen:=by
 unfold zqn
 split
 ·exact Nat.zero_le _
 ·have:=yakn (wdI ls (240+3*(k:Int)+1))
  show (zxk _).size≤maxLen
  unfold maxLen;omega
theorem yanb (v:Value) (ws:List Int) (ps:List St) (z:Int) (w:World) (h:RdPm w v ws ps) (hp:pmB ws ps=true) (h0:0≤z∧z < 336) :
  Calls Tryz.prog 135 #[v,.int .i64 z] w fun e w'=>e=.returned (.int .i64 (wdI (zcj ws ps) z))∧Below w.heap.size w w':=by
 obtain ⟨n,rfl⟩:∃ n:Nat,z=(n:Int):=⟨z.toNat,by omega⟩
 obtain ⟨l1,l2⟩:=zlg hp
 have hn:n < ws.length:=by omega
 rw[yand (by rw[znm];exact hn),yagg ps ws n hn (fun p hq=>by obtain ⟨i,hi,rfl⟩:=List.getElem_of_mem hq;exact (yano hp i hi).1)];exact znt v ws ps n w h (by omega) (by omega) hn
def UpIn (us:List Se):Prop:=∀ u∈us,48≤u.at_∧u.at_ < 312
theorem UpIn.app {us vs:List Se} (h:UpIn us) (k:UpIn vs):UpIn (us ++ vs):=fun u hu=>by
 rcases List.mem_append.1 hu with q | q
 ·exact h u q
 ·exact k u q
theorem zve {k:Nat} (hk:k < 24) (x:Den):UpIn (enL (k:Int) x):=fun u hu=>by
 simp only[enL,List.mem_cons,List.not_mem_nil,or_false] at hu
 rcases hu with rfl | rfl | rfl
 ·exact ⟨by show 48≤240+3*(k:Int);omega,by show 240+3*(k:Int) < 312;omega⟩
 ·exact ⟨by show 48≤240+3*(k:Int)+1;omega,by show 240+3*(k:Int)+1 < 312;omega⟩
 ·exact ⟨by show 48≤240+3*(k:Int)+2;omega,by show 240+3*(k:Int)+2 < 312;omega⟩
theorem zuw {ps:List Den} {k:Nat} (h:k < ps.length):zaj ps k=(zfd ps k).child:=zzo h
theorem yafu {ws:List Ino} {ps:List Den} (h:Img ws ps) (f:¬ feI ps < 0):∃ k:Nat,feI ps=(k:Int)∧k < 24∧zfd ps k=freeD:=by
 have hit:=zpw (p:=fun i=>decide (zaj ps i < 0)) (n:=ps.length) f;have b:=(zdf (fun i=>decide (zaj ps i < 0)) ps.length).2;have e:feI ps=zas (fun i=>decide (zaj ps i < 0)) ps.length:=rfl;rw[← e] at hit b;refine ⟨(feI ps).toNat,by omega,by have:=h.l24;omega,?_⟩
 have hk:(feI ps).toNat < ps.length:=by omega
 have c:zaj ps (feI ps).toNat < 0:=of_decide_eq_true hit;rw[zuw hk] at c
 rcases h.ent (feI ps).toNat (by have:=h.l24;omega) with q | q
 ·exact q
 ·have:=q.1;omega
theorem yafx {ws:List Ino} {ps:List Den} (h:Img ws ps) (f:¬ fiI ws < 0):∃ i:Nat,fiI ws=(i:Int)∧i < 16∧(zci ws i).kind=0:=by
 have hit:=zpw (p:=fun i=>decide (1≤i) && zai ws (i:Int) == 0) (n:=ws.length) f;have b:=(zdf (fun i=>decide (1≤i) && zai ws (i:Int) == 0) ws.length).2;have e:fiI ws=zas (fun i=>decide (1≤i) && zai ws (i:Int) == 0) ws.length:=rfl;rw[← e] at hit b;refine ⟨(fiI ws).toNat,by omega,by have:=h.l16;omega,?_⟩;simp only[Bool.and_eq_true,beq_iff_eq] at hit;rw[← zrx];exact hit.2
theorem zrj {ws:List Ino} {ps:List Den} (h:Img ws ps) {d:Int} {nm:ByteArray} {k:Nat} (e:zbd ps d nm=some k):k < 24∧∃ i:Nat,zaj ps k=(i:Int)∧(zfd ps k).child=(i:Int)∧i < 16∧yapc ws (zfd ps k)∧(zfd ps k).dir=d∧(zfd ps k).name=nm:=by
 obtain ⟨hk,q⟩:=znh e
 have hk24:k < 24:=by have:=h.l24;omega
 obtain ⟨c,hd,hn⟩:=zgl.1 q;rw[← zgp hk] at c hd hn
 have ok:yapc ws (zfd ps k):=by
  rcases h.ent k hk24 with r | r
  ·rw[r] at c;exact absurd c (by decide)
  ·exact r
 refine ⟨hk24,(zfd ps k).child.toNat,?_,by omega,by have:=ok.1;omega,ok,hd,hn⟩;rw[zuw hk];omega
theorem yagj {ws:List Ino} {ps:List Den} (h:Img ws ps):∀ (ns:List ByteArray) (z:Int),(wk ws ps z ns).2=0→¬ zai ws z=0→¬ zai ws (wk ws ps z ns).1=0
 | [],z,_,k=>k
 | n :: ns,z,c,k=>by
  by_cases q:zai ws z=2
  ·cases e:zbd ps z n with
   | none=>rw[zln q e] at c;cases c
   | some j =>
    rw[zls q e] at c ⊢;obtain ⟨_,i,ci,ck,_,ok,_,_⟩:=zrj h e;refine yagj h ns _ c ?_;rw[ci,← ck];exact ok.2.2.2.1
  ·rw[zij q] at c;cases c
theorem yajk {ws:List Ino} {ps:List Den} (h:Img ws ps):∀ (ns:List ByteArray) (z:Int),(wk ws ps z ns).2=0→(wk ws ps z ns).1=z∨1≤(wk ws ps z ns).1
 | [],z,_=>.inl rfl
 | n :: ns,z,c=>by
  by_cases q:zai ws z=2
  ·cases e:zbd ps z n with
   | none=>rw[zln q e] at c;cases c
   | some k =>
    rw[zls q e] at c ⊢;obtain ⟨_,i,ci,ck,_,ok,_,_⟩:=zrj h e;have:=ok.1
    rcases yajk h ns _ c with r | r
    ·right;rw[r,ci];omega
    ·exact .inr r
  ·rw[zij q] at c;cases c
theorem zne {ws:List Ino} {ps:List Den} {s:ByteArray} (h:Img ws ps) (c:(lkI ws ps s).2=0) (k:¬ zai ws (lkI ws ps s).1=2):∃ i:Nat,(lkI ws ps s).1=(i:Int)∧i < 16∧¬ i=0∧(zci ws i).kind=1:=by
 have rg:=zmq (s:=s) (zca.2 h);refine ⟨(lkI ws ps s).1.toNat,by omega,by omega,?_⟩;unfold lkI at c k rg ⊢
 by_cases q:spB s=true
 ·rw[if_pos q] at c k rg ⊢;have r1:zai ws 0=2:=h.root;have kk:=yagj h (spL s) 0 c (by rw[r1];decide)
  have hp:1≤(wk ws ps 0 (spL s)).1:=by
   rcases yajk h _ 0 c with r | r
   ·rw[r] at k;exact absurd r1 k
   ·exact r
  refine ⟨by omega,?_⟩
  obtain ⟨n,hn⟩:∃ n:Nat,(wk ws ps 0 (spL s)).1=(n:Int):=⟨(wk ws ps 0 (spL s)).1.toNat,by omega⟩
  rw[hn] at k kk rg ⊢;rw[Int.toNat_natCast];rw[zrx] at k kk;have:=(zft (h.ok n (by omega))).1;omega
 ·rw[if_neg q] at c;cases c
end Go.Proofs.YtehnphoeplmpdaaGreatDoor

namespace Go.Proofs.YtehnphoeplmpdaaGreatDoor
open Go.ChangeShapes Go.WideShapes Go.ChangeAt Go.RowKit Go.Joins
theorem own:ownKnob Tryz.prog.godebug=none:=by kernel_rfl
theorem zli:laidOutB Tryz.prog=true:=by kernel_rfl
theorem zmg:Tryz.prog.cellsOf 3=1:=by kernel_rfl
theorem yart:Tryz.prog.cellsOf 4=1:=by kernel_rfl
theorem zjj {α:Type} {P:Nat→α→Prop}:∀ (n:Nat),(∀ i,i < n→∃ x,P i x)→∃ l:List α,l.length=n∧∀ i (hi:i < l.length),P i l[i]
 | 0,_=>⟨[],rfl,fun i hi=>absurd hi (by simp)⟩
 | n+1,h=>by
  obtain ⟨l,hl,hp⟩:=zjj n (fun i hi=>h i (by omega));obtain ⟨x,hx⟩:=h n (by omega);refine ⟨l ++ [x],by simp[hl],fun i hi=>?_⟩
  by_cases e:i < l.length
  ·rw[List.getElem_append_left e];exact hp i e
  ·have e':i=n:=by simp at hi;omega
   subst e';rw[List.getElem_append_right (by omega)];simpa[hl] using hx
section
variable {H:Type} {enc:TypeId×Value→H} {W:World} {sp:Nat→Bool} {held:Bool} {fuel:Nat} {v:Value} {y:DataW H×List MemPlace}
theorem yaao (h:DataW.trod enc Tryz.prog W 0 sp held fuel 22 [v]=some y):∃ zs:List Int,RdI W v zs∧zs.length≤maxLen∧∀ z∈zs,(Lit.int .i64 z).wf=true:=by
 rcases open_ints Tryz.underlying22 Tryz.underlying3 zmg h with ⟨hcs,_⟩ | ⟨a,len,cap,zs,hcs,_,hl,hm,hz,_,hcell,hwz⟩
 ·simp only[List.cons.injEq,and_true] at hcs;subst hcs;exact ⟨[],⟨rfl,none,0,rfl,⟨Nat.le_refl _,fun _=>rfl⟩,fun h=>absurd h (by simp)⟩,by simp,fun z hz=>by simp at hz⟩
 ·simp only[List.cons.injEq,and_true] at hcs;subst hcs
  have hzl:len≤zs.length:=by rw[hz];split <;> omega
  have e:(zs.take len).length=len:=by simp;omega
  refine ⟨zs.take len,⟨by simp[zeg],some a,cap,by rw[e],⟨by rw[e];exact hl,fun e=>by cases e⟩,fun hn=>?_⟩,by rw[e];omega,fun z hz=>hwz z (List.mem_of_mem_take hz)⟩;rw[e] at hn;obtain ⟨b,off,spot⟩:=a;have hc:=hcell 0 (by omega)
  have hspot:spot=none:=by simpa[Addr.add] using World.cell?_spot hc
  subst hspot;refine ⟨b,off,rfl,World.block_lt_of_cell? W _ (by simpa[Addr.add] using hc),fun j hj=>?_⟩;rw[e] at hj;have hc:=hcell j (by omega);rw[Addr.add_lit] at hc;rw[hc,zfm _ j (by rw[e];omega)];simp[List.getD,show j < zs.length by omega]
end
end Go.Proofs.YtehnphoeplmpdaaGreatDoor

namespace Go.Proofs.YtehnphoeplmpdaaGreatDoor
open Go.ChangeShapes Go.WideShapes Go.ChangeAt Go.RowKit Go.Joins
theorem yacv:Tryz.prog.cellsOf 192=3:=by kernel_rfl
theorem yapd:Tryz.prog.cellsOf 25=2:=by kernel_rfl
section
variable {H:Type} {enc:TypeId×Value→H} {W:World} {sp:Nat→Bool} {held:Bool} {fuel:Nat} {v:Value} {y:DataW H×List MemPlace}
theorem yakz (h:DataW.trod enc Tryz.prog W 0 sp held fuel 23 [v]=some y):∃ ps:List St,RdS W v ps∧ps.length≤maxLen∧∀ p∈ps,(Lit.int .i64 p.at_).wf=true∧(Lit.int .i64 p.val).wf=true:=by
 rcases Deep.open_slice Tryz.underlying23 h with ⟨hcs,_⟩ | ⟨a,len,cap,m,n,D,Pl,hcs,_,hl,hm,hmm,_,hel⟩
 ·simp only[List.cons.injEq,and_true] at hcs;subst hcs;exact ⟨[],⟨rfl,none,0,rfl,⟨Nat.le_refl _,fun _=>rfl⟩,fun h=>absurd h (by simp)⟩,by simp,fun p hp=>by simp at hp⟩
 ·simp only[List.cons.injEq,and_true] at hcs;subst hcs
  have hlm:len≤m:=by rw[hmm];split <;> omega
  have one:∀ i,i < len→∃ s:St,(W.cell? ((a.add (i*3)).add 0)=some (.int .i64 s.at_)∧W.cell? ((a.add (i*3)).add 1)=some (.int .i64 s.val)∧W.cell? ((a.add (i*3)).add 2)=some (.bool s.fl))∧(Lit.int .i64 s.at_).wf=true∧(Lit.int .i64 s.val).wf=true:=by
   intro i hi;obtain ⟨cs,hcs,ht⟩:=hel i (by omega);rw[yacv] at hcs;obtain ⟨_,hlen,hc⟩:=World.cells?_some hcs;obtain ⟨y0,y1,y2,n',_,_,t0,t1,t2⟩:=Deep.trod_struct3 Tryz.underlying192 ht;obtain ⟨z0,e0,_,w0⟩:=DataW.trod_int Tryz.underlying3 t0;obtain ⟨z1,e1,_,w1⟩:=DataW.trod_int Tryz.underlying3 t1;obtain ⟨z2,e2,_⟩:=DataW.trod_bool Tryz.underlying4 t2;simp only[zmg,yart] at e0 e1 e2
   match cs,hlen with
   | [c0,c1,c2],_ =>
    simp at e0 e1 e2;subst e0 e1 e2;exact ⟨⟨z0,z1,z2⟩,⟨by simpa using hc 0 (by omega),by simpa using hc 1 (by omega),by simpa using hc 2 (by omega)⟩,w0,w1⟩
  obtain ⟨ps,hpl,hps⟩:=zjj len one;refine ⟨ps,⟨yaho ps,some a,cap,by rw[hpl],⟨by rw[hpl];exact hl,fun e=>by cases e⟩,fun hn=>?_⟩,by rw[hpl];omega,fun p hp=>?_⟩
  ·obtain ⟨b,off,spot⟩:=a;have hc:=(hps 0 hn).1.1
   have hspot:spot=none:=by simpa[Addr.add] using World.cell?_spot hc
   subst hspot;refine ⟨b,off,rfl,World.block_lt_of_cell? W _ (by simpa[Addr.add] using hc),fun j hj=>?_⟩
   have hk:j / 3 < ps.length:=by omega
   obtain ⟨⟨q0,q1,q2⟩,_⟩:=hps (j / 3) hk;simp only[Addr.add_lit,Nat.add_zero] at q0 q1 q2
   have hj3:j=j / 3*3+j % 3:=by omega
   rcases (show j % 3=0∨j % 3=1∨j % 3=2 from by omega) with r | r | r
   ·rw[hj3,r,Nat.add_zero,q0,ztk ps _ hk]
   ·rw[hj3,r,← Nat.add_assoc,q1,zua ps _ hk]
   ·rw[hj3,r,← Nat.add_assoc,q2,zth ps _ hk]
  ·obtain ⟨i,hi,rfl⟩:=List.getElem_of_mem hp;exact (hps i hi).2
end
end Go.Proofs.YtehnphoeplmpdaaGreatDoor

namespace Go.Proofs.YtehnphoeplmpdaaGreatDoor
open Go.RowKit
structure Mi where
 kind:Int
 at_:Int
 val:Int
end Go.Proofs.YtehnphoeplmpdaaGreatDoor

namespace Go.Proofs.YtehnphoeplmpdaaGreatDoor
def up (a v:Int):St:=⟨a,v,false⟩
def stM (p:St):Mi:=⟨1,p.at_,p.val⟩
def zrv (ks:List Int) (i:Nat):Bool:=(List.range i).any (fun k=>ks[k]?.getD 0 / 8 == ks[i]?.getD 0 / 8)
def nl (ks:List Int):Nat→List Mi
 | 0=>[]
 | i+1=>if zrv ks i=true then nl ks i else nl ks i ++ [⟨2,ks[i]?.getD 0,0⟩]
def zbf (ks:List Int):List Mi:=nl ks ks.length ++ [⟨3,0,0⟩]
def seg (S:List St):List Mi:=S.map stM ++ zbf (S.map (·.at_))
def jrn:Nat→List St→List St
 | _,[]=>[]
 | i,u :: us=>⟨9+2*(i:Int),u.at_,false⟩ :: ⟨9+2*(i:Int)+1,u.val,false⟩ :: jrn (i+1) us
def cnt (n:Int):List St:=[⟨8,n,false⟩]
def zkd (us:List St):List Mi:=seg us ++ seg (cnt 0)
def zdg (us:List St):List Mi:=if us.length=0 then [] else seg (jrn 0 us) ++ seg (cnt (us.length:Int)) ++ zkd us
end Go.Proofs.YtehnphoeplmpdaaGreatDoor

namespace Go.Proofs.YtehnphoeplmpdaaGreatDoor
open Go.RowKit
def Mi.cells (s:Mi):List Value:=[.int .i64 s.kind,.int .i64 s.at_,.int .i64 s.val]
def mis (ps:List Mi):List Value:=ps.flatMap Mi.cells
theorem Mi.cells_len (s:Mi):s.cells.length=3:=rfl
theorem yaoa (ps:List Mi):(mis ps).length=ps.length*3:=zgn _ 3 Mi.cells_len ps
theorem zzv (ps:List Mi) (k:Nat) (h:k < ps.length):(mis ps)[k*3]?=some (.int .i64 ps[k].kind):=zbr _ 3 Mi.cells_len ps k 0 h (by omega)
theorem yaaa (ps:List Mi) (k:Nat) (h:k < ps.length):(mis ps)[k*3+1]?=some (.int .i64 ps[k].at_):=zbr _ 3 Mi.cells_len ps k 1 h (by omega)
theorem zyj (ps:List Mi) (k:Nat) (h:k < ps.length):(mis ps)[k*3+2]?=some (.int .i64 ps[k].val):=zbr _ 3 Mi.cells_len ps k 2 h (by omega)
def RdM (w:World) (v:Value) (ps:List Mi):Prop:=Rd w 3 v ps.length (mis ps)
theorem RdM.shape {w:World} {v:Value} {ps:List Mi} (h:RdM w v ps):∃ ao cap,v=.slice ao ps.length cap∧ps.length≤cap∧(0 < ps.length→∃ b o,ao=some ⟨b,o,none⟩∧b < w.heap.size ∧
  ∀ k (h:k < ps.length),w.cell? ⟨b,o+k*3,none⟩=some (.int .i64 ps[k].kind)∧w.cell? ⟨b,o+k*3+1,none⟩=some (.int .i64 ps[k].at_)∧w.cell? ⟨b,o+k*3+2,none⟩=some (.int .i64 ps[k].val)):=by
 obtain ⟨_,ao,cap,rfl,h2,h3⟩:=h;refine ⟨ao,cap,rfl,h2.1,fun hn=>?_⟩;obtain ⟨b,o,rfl,hb,hc⟩:=h3 hn;exact ⟨b,o,rfl,hb,fun k hk=>⟨(hc (k*3) (by omega)).trans (zzv ps k hk),(hc (k*3+1) (by omega)).trans (yaaa ps k hk),(hc (k*3+2) (by omega)).trans (zyj ps k hk)⟩⟩
theorem zbo:(Tryz.prog.info? 98).map (fun i=>(i.zero,i.size,i.bytes))=some (some (.agg #[.int .i64 0,.int .i64 0,.int .i64 0]),3,24):=by kernel_rfl
theorem yada {ys:List Value} {ps:List Mi} {k:Nat} (hk:k < ps.length) (hl:ys.length=ps.length*3) (h:∀ j,j < k*3→ys[j]?=(mis ps)[j]?) :
  ∀ j,j < (k+1)*3→(put3 ys k (.int .i64 ps[k].kind) (.int .i64 ps[k].at_) (.int .i64 ps[k].val))[j]?=(mis ps)[j]?:=by
 intro j hj;rw[zhi (by omega)]
 split
 ·rename_i e;rw[e,zyj ps k hk]
 ·split
  ·rename_i e;rw[e,yaaa ps k hk]
  ·split
   ·rename_i e;rw[e,zzv ps k hk]
   ·exact h j (by omega)
theorem yapu {ys:List Value} {ps:List Mi} (hl:ys.length=ps.length*3) (h:∀ j,j < ps.length*3→ys[j]?=(mis ps)[j]?):ys=mis ps:=by
 apply List.ext_getElem?;intro j
 by_cases hj:j < ps.length*3
 ·exact h j hj
 ·rw[List.getElem?_eq_none (by omega),List.getElem?_eq_none (by rw[yaoa];omega)]
theorem yacf (a v:Int) (f:Int) (w:World):Calls Tryz.prog 43 #[.agg #[.int .i64 a,.int .i64 v,.int .i64 f],.agg #[.int .i64 a,.int .i64 v,.int .i64 f]] w fun e w'=>e=.returned (.bool true)∧Below w.heap.size w w':=by
 go_enter Tryz.func43,Tryz.ntmps43;go_wp2;go_ret;refine ⟨rfl,?_⟩
 repeat (refine Below.alloc ?_ (by simp <;> omega) _)
 exact Below.refl _ _
theorem zgw (va vb:Value) (ps:List Mi) (w:World) (ha:RdM w va ps) (hb:RdM w vb ps) (hn:ps.length≤2147483648) :
  Calls Tryz.prog 12 #[va,vb] w fun e w'=>e=.returned (.bool true)∧Below w.heap.size w w':=by
 obtain ⟨ao,cap,rfl,hcap,hc⟩:=ha.shape;obtain ⟨ao2,cap2,rfl,hcap2,hc2⟩:=hb.shape;clear ha hb;go_enter Tryz.func12,Tryz.ntmps12;go_wp2
 go_loopw [5] (fun i wr=>∃ k:Nat,k≤ps.length∧i=.int .i64 k∧Below w.heap.size w wr) (fun i _=>ps.length - (intOf i).toNat)
 case atStart=>exact ⟨0,by omega,rfl,Below.refl _ _⟩
 case round =>
  obtain ⟨k,hk,rfl,hbw⟩:=hrel
  by_cases hlt:k < ps.length
  ·obtain ⟨b,o,rfl,hbl,hcell⟩:=hc (by omega);obtain ⟨b2,o2,rfl,hbl2,hcell2⟩:=hc2 (by omega);obtain ⟨c0,c1,c2⟩:=hcell k hlt;obtain ⟨c3,c4,c5⟩:=hcell2 k hlt;have d0:=(hbw.cell (p:=⟨b,o+k*3,none⟩) hbl).trans c0;have d1:=(hbw.cell (p:=⟨b,o+k*3+1,none⟩) hbl).trans c1;have d2:=(hbw.cell (p:=⟨b,o+k*3+2,none⟩) hbl).trans c2;have d3:=(hbw.cell (p:=⟨b2,o2+k*3,none⟩) hbl2).trans c3;have d4:=(hbw.cell (p:=⟨b2,o2+k*3+1,none⟩) hbl2).trans c4;have d5:=(hbw.cell (p:=⟨b2,o2+k*3+2,none⟩) hbl2).trans c5
   have hlt':(k:Int) < (ps.length:Int):=by omega
   have hge:(0:Int)≤(k:Int):=by omega
   have hz:=hbw.size;clear hcell hcell2 hc hc2 c0 c1 c2 c3 c4 c5;go_wp2_with fail
   go_region_with (go_at_call 43;refine (yacf _ _ _ _).mono ?_;rintro e w1 ⟨rfl,hb1⟩)
   all_goals
    go_wp2
    go_roundw
    case rel=>exact ⟨k+1,by omega,by go_num,hbw.trans (Below.mono (Below.trans ((Below.refl _ _).drew) ‹_›) hz)⟩
    case measure=>simp[intOf];omega
  ·go_wp2;go_ret;exact ⟨rfl,hbw⟩
def yaom (k:Int) (i:Nat):Mi:=⟨k+3*(i:Int),k+3*(i:Int)+1,k+3*(i:Int)+1+1⟩
def zfj (k:Int) (n:Nat):List Mi:=(List.range n).map (yaom k)
theorem zeu (k:Int) (n:Nat):(zfj k n).length=n:=by simp[zfj]
theorem zwy (k:Int) (n i:Nat) (h:i < (zfj k n).length):(zfj k n)[i]=yaom k i:=by simp[zfj]
def IsMis (xs:List Value) (n:Nat):Prop:=∀ k,k < n→∃ a b c,xs[k*3]?=some (.int .i64 a)∧xs[k*3+1]?=some (.int .i64 b)∧xs[k*3+2]?=some (.int .i64 c)
theorem yatu (ps:List Mi):IsMis (mis ps) ps.length:=fun k hk=>⟨_,_,_,zzv ps k hk,yaaa ps k hk,zyj ps k hk⟩
theorem IsMis.put3 {ys:List Value} {n:Nat} (h:IsMis ys n) (hl:ys.length=n*3) (k:Nat) (a b:Int) (c:Int):IsMis (put3 ys k (.int .i64 a) (.int .i64 b) (.int .i64 c)) n:=by
 intro j hj;rw[zhi (by omega),zhi (by omega),zhi (by omega)]
 by_cases e:j=k
 ·subst e;exact ⟨a,b,c,by simp,by simp,by simp⟩
 ·obtain ⟨x,y,z,h0,h1,h2⟩:=h j hj;refine ⟨x,y,z,?_,?_,?_⟩
  ·rw[if_neg (by omega),if_neg (by omega),if_neg (by omega)];exact h0
  ·rw[if_neg (by omega),if_neg (by omega),if_neg (by omega)];exact h1
  ·rw[if_neg (by omega),if_neg (by omega),if_neg (by omega)];exact h2
theorem zqq (v:Value) (n:Nat) (xs:List Value) (k0:Int) (lo hi:Nat) (w:World) (h:Row w 98 3 lo hi v n xs) (hx:IsMis xs n) (hn:n≤2147483648) (h0:0≤k0) (h1:k0≤1099511627776) :
  Calls Tryz.prog 16 #[v,.int .i64 k0] w fun e w'=>e=.returned (.int .i64 (k0+3*n))∧Row w' 98 3 lo hi v n (mis (zfj k0 n))∧w.grownBy w' v.ownBlock∧w'.heap.size=w.heap.size:=by
 obtain ⟨hlen,ao,cap,rfl,hcap,hc⟩:=h.rd;go_enter Tryz.func16,Tryz.ntmps16;go_wp2
 go_loopw [1,5] (fun c i wr=>∃ k:Nat,k≤n∧i=.int .i64 k∧c=.int .i64 (k0+3*k)∧(∃ ys:List Value,Row wr 98 3 lo hi (.slice ao n cap) n ys∧IsMis ys n∧∀ j,j < k*3→ys[j]?=(mis (zfj k0 n))[j]?)∧w.grownBy wr (Value.slice ao n cap).ownBlock∧wr.heap.size=w.heap.size) (fun _ i _=>n - (intOf i).toNat)
 case atStart=>exact ⟨0,by omega,rfl,by simp,⟨xs,h,hx,fun j hj=>absurd hj (by omega)⟩,World.grownBy.refl _ _,rfl⟩
 case round =>
  obtain ⟨k,hk,rfl,rfl,⟨ys,hrow,hys,hd⟩,hout,hz⟩:=hrel;clear h hx hc hlen
  by_cases hlt:k < n
  ·obtain ⟨hlen,ao',cap',e',_,hc⟩:=hrow.rd
   cases e'
   obtain ⟨b,o,rfl,hbl,_⟩:=hc (by omega)
   obtain ⟨rfl,hb1,hb2,_,hfr,hcl⟩:=hrow.at
   obtain ⟨x,y,z,q0,q1,q2⟩:=hys k hlt;have f0:=hfr (k*3);have f1:=hfr (k*3+1);have f2:=hfr (k*3+2);have e0:=(hcl (k*3) (by omega)).trans q0;have e1:=(hcl (k*3+1) (by omega)).trans q1;have e2:=(hcl (k*3+2) (by omega)).trans q2;have PH:=zaa (hrow.put3 k (.int .i64 (k0+3*k)) (.int .i64 (k0+3*k+1)) (.int .i64 (k0+3*k+1+1)));have OH:=zaa (zbm (zbm (zbm hout (a:=⟨b,k*3,none⟩) rfl (.int .i64 (k0+3*k))) (a:=⟨b,k*3+1,none⟩) rfl (.int .i64 (k0+3*k+1))) (a:=⟨b,k*3+2,none⟩) rfl (.int .i64 (k0+3*k+1+1)));have IH:=zaa (hys.put3 hlen k (k0+3*k) (k0+3*k+1) (k0+3*k+1+1))
   have DH:Hid (∀ j,j < (k+1)*3→(put3 ys k (.int .i64 (k0+3*k)) (.int .i64 (k0+3*k+1)) (.int .i64 (k0+3*k+1+1)))[j]?=(mis (zfj k0 n))[j]?):=by
    have hk':k < (zfj k0 n).length:=by rw[zeu];exact hlt
    have:=yada (ps:=zfj k0 n) hk' (by rw[zeu];exact hlen) hd;rw[zwy] at this;exact this
   clear hrow hys hd hc hfr hcl q0 q1 q2;go_wp2
   go_roundw
   case rel=>exact ⟨k+1,by omega,by go_num,by go_num,⟨_,PH.o,IH.o,DH.o⟩,OH.o,by simp[hz]⟩
   case measure=>simp[intOf];omega
  ·have e:k=n:=by omega
   subst e;have hl:=hrow.len;have RH:=zaa hrow;have DH:=zaa hd;clear hrow hys hd;go_wp2;go_ret;have e:=yapu (ps:=zfj k0 k) (by rw[zeu];exact hl) (by rw[zeu];exact DH.o);exact ⟨rfl,e ▸ RH.o,hout,hz⟩
theorem zja (v:Value) (n:Nat) (k0:Int) (w:World) (h:RdM w v (zfj k0 n)) (hn:n≤2147483648) (h0:0≤k0) (h1:k0≤1099511627776) :
  Calls Tryz.prog 18 #[v,.int .i64 k0] w fun e w'=>e=.returned (.int .i64 (k0+3*n))∧w'=w:=by
 obtain ⟨ao,cap,rfl,hcap,hc⟩:=h.shape;simp only[zeu] at hcap hc ⊢;clear h;go_enter Tryz.func18,Tryz.ntmps18;go_wp2
 go_loop [1,5] (fun c i=>∃ k:Nat,k≤n∧i=.int .i64 k∧c=.int .i64 (k0+3*k)) (fun _ i=>n - (intOf i).toNat)
 case atStart=>exact ⟨0,by omega,rfl,by simp⟩
 case round =>
  obtain ⟨k,hk,rfl,rfl⟩:=hrel
  by_cases hlt:k < n
  ·obtain ⟨b,o,rfl,hbl,hcell⟩:=hc (by omega);obtain ⟨c0,c1,c2⟩:=hcell k hlt;rw[zwy] at c0 c1 c2;simp only[yaom] at c0 c1 c2;clear hcell hc;go_wp2
   go_round
   case rel=>exact ⟨k+1,by omega,by go_num,by go_num⟩
   case measure=>simp[intOf];omega
  ·have e:k=n:=by omega
   subst e;go_wp2;go_ret;exact ⟨rfl,rfl⟩
end Go.Proofs.YtehnphoeplmpdaaGreatDoor
