/- Several texts laid together: OpenB, OpenD, OpenM, OpenO, OpenF, OpenI, OpenW, SBv. -/
import Derived.Test.YtahiphgmhndgaaaGreatDoorZAC
import Derived.Test.YtahiphgmhndgaaaGreatDoorZAV
import Derived.Test.YtahiphgmhndgaaaGreatDoorZAD
import Derived.Test.YtahiphgmhndgaaaGreatDoorZAL
import Derived.Deep.Strs
import Derived.Test.YtahiphgmhndgaaaGreatDoorZAJ
import Derived.Test.YtahiphgmhndgaaaGreatDoorZAK
import Derived.Lib.LaidTab
import Derived.Lib.SmallJoins
import Derived.Deep.RegionLaw
import Derived.Test.YtahiphgmhndgaaaGreatDoorZBN
import Derived.Test.YtahiphgmhndgaaaGreatDoorZBI
import Derived.ProofKit
import Derived.ChangeSame
import Derived.OpenShut
import Derived.ChangeOld
set_option maxRecDepth 100000
namespace Go.Proofs.YtahiphgmhndgaaaGreatDoor
open Go.ChangeShapes Go.WideShapes Go.ChangeAt Go.RowKit Go.Joins
theorem yapz:Tryz.prog.cellsOf 196=2:=by kernel_rfl
theorem yaps:Tryz.prog.cellsOf 28=2:=by kernel_rfl
section
variable {H:Type} {enc:TypeId×Value→H} {W:World} {sp:Nat→Bool} {held:Bool} {fuel:Nat} {v:Value} {y:DataW H×List MemPlace}
theorem yamn (h:DataW.trod enc Tryz.prog W 0 sp held fuel 26 [v]=some y):∃ ps:List Se,RdE W v ps∧ps.length≤maxLen∧∀ p∈ps,(Lit.int .i64 p.at_).wf=true∧(Lit.int .i64 p.val).wf=true:=by
 rcases Deep.open_slice Tryz.underlying26 h with ⟨hcs,_⟩ | ⟨a,len,cap,m,n,D,Pl,hcs,_,hl,hm,hmm,_,hel⟩
 ·simp only[List.cons.injEq,and_true] at hcs;subst hcs;exact ⟨[],⟨rfl,none,0,rfl,⟨Nat.le_refl _,fun _=>rfl⟩,fun h=>absurd h (by simp)⟩,by simp,fun p hp=>by simp at hp⟩
 ·simp only[List.cons.injEq,and_true] at hcs;subst hcs
  have hlm:len≤m:=by rw[hmm];split <;> omega
  have one:∀ i,i < len→∃ s:Se,(W.cell? ((a.add (i*2)).add 0)=some (.int .i64 s.at_)∧W.cell? ((a.add (i*2)).add 1)=some (.int .i64 s.val) )∧(Lit.int .i64 s.at_).wf=true∧(Lit.int .i64 s.val).wf=true:=by
   intro i hi;obtain ⟨cs,hcs,ht⟩:=hel i (by omega);rw[yapz] at hcs;obtain ⟨_,hlen,hc⟩:=World.cells?_some hcs;obtain ⟨y0,y1,n',_,_,t0,t1⟩:=ChangeShapes.trod_struct2 Tryz.underlying196 ht;obtain ⟨z0,e0,_,w0⟩:=DataW.trod_int Tryz.underlying3 t0;obtain ⟨z1,e1,_,w1⟩:=DataW.trod_int Tryz.underlying3 t1;simp only[zkx] at e0 e1
   match cs,hlen with
   | [c0,c1],_ =>
    simp at e0 e1;subst e0 e1;exact ⟨⟨z0,z1⟩,⟨by simpa using hc 0 (by omega),by simpa using hc 1 (by omega)⟩,w0,w1⟩
  obtain ⟨ps,hpl,hps⟩:=zfs len one;refine ⟨ps,⟨yaji ps,some a,cap,by rw[hpl],⟨by rw[hpl];exact hl,fun e=>by cases e⟩,fun hn=>?_⟩,by rw[hpl];omega,fun p hp=>?_⟩
  ·obtain ⟨b,off,spot⟩:=a;have hc:=(hps 0 hn).1.1
   have hspot:spot=none:=by simpa[Addr.add] using World.cell?_spot hc
   subst hspot;refine ⟨b,off,rfl,World.block_lt_of_cell? W _ (by simpa[Addr.add] using hc),fun j hj=>?_⟩
   have hk:j / 2 < ps.length:=by omega
   obtain ⟨⟨q0,q1⟩,_⟩:=hps (j / 2) hk;simp only[Addr.add_lit,Nat.add_zero] at q0 q1
   have hj3:j=j / 2*2+j % 2:=by omega
   rcases (show j % 2=0∨j % 2=1 from by omega) with r | r
   ·rw[hj3,r,Nat.add_zero,q0,zgx ps _ hk]
   ·rw[hj3,r,← Nat.add_assoc,q1,zjj ps _ hk]
  ·obtain ⟨i,hi,rfl⟩:=List.getElem_of_mem hp;exact (hps i hi).2
end
end Go.Proofs.YtahiphgmhndgaaaGreatDoor

namespace Go.Proofs.YtahiphgmhndgaaaGreatDoor
open Go.ChangeShapes Go.WideShapes Go.ChangeAt Go.RowKit Go.Joins
theorem yanb:Tryz.prog.cellsOf 30=4:=by kernel_rfl
end Go.Proofs.YtahiphgmhndgaaaGreatDoor

namespace Go.Proofs.YtahiphgmhndgaaaGreatDoor
open Go.ChangeShapes Go.WideShapes Go.ChangeAt Go.RowKit Go.Joins
theorem yang:Tryz.prog.cellsOf 113=3:=by kernel_rfl
section
variable {H:Type} {enc:TypeId×Value→H} {W:World} {sp:Nat→Bool} {held:Bool} {fuel:Nat} {v:Value} {y:DataW H×List MemPlace}
theorem yapv (h:DataW.trod enc Tryz.prog W 0 sp held fuel 31 [v]=some y):∃ ps:List Mi,RdM W v ps∧ps.length≤maxLen∧∀ p∈ps,(Lit.int .i64 p.at_).wf=true∧(Lit.int .i64 p.val).wf=true:=by
 rcases Deep.open_slice Tryz.underlying31 h with ⟨hcs,_⟩ | ⟨a,len,cap,m,n,D,Pl,hcs,_,hl,hm,hmm,_,hel⟩
 ·simp only[List.cons.injEq,and_true] at hcs;subst hcs;exact ⟨[],⟨rfl,none,0,rfl,⟨Nat.le_refl _,fun _=>rfl⟩,fun h=>absurd h (by simp)⟩,by simp,fun p hp=>by simp at hp⟩
 ·simp only[List.cons.injEq,and_true] at hcs;subst hcs
  have hlm:len≤m:=by rw[hmm];split <;> omega
  have one:∀ i,i < len→∃ s:Mi,(W.cell? ((a.add (i*3)).add 0)=some (.int .i64 s.kind)∧W.cell? ((a.add (i*3)).add 1)=some (.int .i64 s.at_)∧W.cell? ((a.add (i*3)).add 2)=some (.int .i64 s.val))∧(Lit.int .i64 s.at_).wf=true∧(Lit.int .i64 s.val).wf=true:=by
   intro i hi;obtain ⟨cs,hcs,ht⟩:=hel i (by omega);rw[yang] at hcs;obtain ⟨_,hlen,hc⟩:=World.cells?_some hcs;obtain ⟨y0,y1,y2,n',_,_,t0,t1,t2⟩:=Deep.trod_struct3 Tryz.underlying113 ht;obtain ⟨z0,e0,_,w0⟩:=DataW.trod_int Tryz.underlying3 t0;obtain ⟨z1,e1,_,w1⟩:=DataW.trod_int Tryz.underlying3 t1;obtain ⟨z2,e2,_,w2⟩:=DataW.trod_int Tryz.underlying3 t2;simp only[zkx] at e0 e1 e2
   match cs,hlen with
   | [c0,c1,c2],_ =>
    simp at e0 e1 e2;subst e0 e1 e2;exact ⟨⟨z0,z1,z2⟩,⟨by simpa using hc 0 (by omega),by simpa using hc 1 (by omega),by simpa using hc 2 (by omega)⟩,w1,w2⟩
  obtain ⟨ps,hpl,hps⟩:=zfs len one;refine ⟨ps,⟨yabu ps,some a,cap,by rw[hpl],⟨by rw[hpl];exact hl,fun e=>by cases e⟩,fun hn=>?_⟩,by rw[hpl];omega,fun p hp=>?_⟩
  ·obtain ⟨b,off,spot⟩:=a;have hc:=(hps 0 hn).1.1
   have hspot:spot=none:=by simpa[Addr.add] using World.cell?_spot hc
   subst hspot;refine ⟨b,off,rfl,World.block_lt_of_cell? W _ (by simpa[Addr.add] using hc),fun j hj=>?_⟩
   have hk:j / 3 < ps.length:=by omega
   obtain ⟨⟨q0,q1,q2⟩,_⟩:=hps (j / 3) hk;simp only[Addr.add_lit,Nat.add_zero] at q0 q1 q2
   have hj3:j=j / 3*3+j % 3:=by omega
   rcases (show j % 3=0∨j % 3=1∨j % 3=2 from by omega) with r | r | r
   ·rw[hj3,r,Nat.add_zero,q0,zqi ps _ hk]
   ·rw[hj3,r,← Nat.add_assoc,q1,zqn ps _ hk]
   ·rw[hj3,r,← Nat.add_assoc,q2,zor ps _ hk]
  ·obtain ⟨i,hi,rfl⟩:=List.getElem_of_mem hp;exact (hps i hi).2
end
end Go.Proofs.YtahiphgmhndgaaaGreatDoor

namespace Go.Proofs.YtahiphgmhndgaaaGreatDoor
open Go.ChangeShapes Go.WideShapes Go.ChangeAt Go.RowKit Go.Joins
theorem yaue:Tryz.prog.cellsOf 3=1:=by kernel_rfl
theorem yavh:Tryz.prog.cellsOf 9=1:=by kernel_rfl
theorem zyk {H:Type} {enc:TypeId×Value→H} {P:Program} {w:World} {base:Nat} {spare:Nat→Bool} {held:Bool} {t:TypeId} {f0 f1 f2 f3 f4:Field} {fuel:Nat} {cs:List Value} {x:DataW H×List MemPlace} (ht:P.underlying t=some (.struct #[f0,f1,f2,f3,f4])) (h:DataW.trod enc P w base spare held fuel t cs=some x) :
  ∃ y0 y1 y2 y3 y4 n,cs.length=P.cellsOf t∧DataW.trod enc P w base spare held n f0.type ((cs.drop f0.offset).take (P.cellsOf f0.type))=some y0∧DataW.trod enc P w base spare held n f1.type ((cs.drop f1.offset).take (P.cellsOf f1.type))=some y1∧DataW.trod enc P w base spare held n f2.type ((cs.drop f2.offset).take (P.cellsOf f2.type))=some y2∧DataW.trod enc P w base spare held n f3.type ((cs.drop f3.offset).take (P.cellsOf f3.type))=some y3∧DataW.trod enc P w base spare held n f4.type ((cs.drop f4.offset).take (P.cellsOf f4.type))=some y4:=by
 obtain ⟨xs,n,_,rfl,hl,hlen,hf⟩:=DataW.trod_struct ht h
 match xs,hlen with
 | [y0,y1,y2,y3,y4],_=>exact ⟨y0,y1,y2,y3,y4,n,hl,by simpa using hf 0 f0 rfl,by simpa using hf 1 f1 rfl,by simpa using hf 2 f2 rfl,by simpa using hf 3 f3 rfl,by simpa using hf 4 f4 rfl⟩
end Go.Proofs.YtahiphgmhndgaaaGreatDoor

namespace Go.Proofs.YtahiphgmhndgaaaGreatDoor
open Go.ChangeShapes Go.WideShapes Go.ChangeAt Go.RowKit Go.Joins
section
variable {H:Type} {enc:TypeId×Value→H} {W:World} {sp:Nat→Bool} {held:Bool} {fuel:Nat} {v:Value} {y:DataW H×List MemPlace}
theorem yaoo (h:DataW.trod enc Tryz.prog W 0 sp held fuel 32 [v]=some y):∃ ss:List ByteArray,RdT W v ss∧ss.length≤maxLen∧∀ k (hk:k < ss.length),ss[k].size≤maxLen:=by
 rcases Deep.open_slice Tryz.underlying32 h with ⟨hcs,_⟩ | ⟨a,len,cap,m,n,D,Pl,hcs,_,hl,hm,hmm,_,hel⟩
 ·simp only[List.cons.injEq,and_true] at hcs;subst hcs;exact ⟨[],⟨rfl,none,0,rfl,⟨Nat.le_refl _,fun _=>rfl⟩,fun h=>absurd h (by simp)⟩,by simp,fun k hk=>by simp at hk⟩
 ·simp only[List.cons.injEq,and_true] at hcs;subst hcs
  have hlm:len≤m:=by rw[hmm];split <;> omega
  have one:∀ i,i < len→∃ s:ByteArray,W.cell? (a.add (i*1))=some (.string s)∧s.size≤maxLen:=by
   intro i hi;obtain ⟨cs,hcs,ht⟩:=hel i (by omega);rw[yavh] at hcs;obtain ⟨_,hlen,hc⟩:=World.cells?_some hcs;obtain ⟨s,e0,_,w0⟩:=DataW.trod_string Tryz.underlying9 ht;subst e0;exact ⟨s,by have:=hc 0 (by omega);simpa[Addr.add] using this,by simpa using w0⟩
  obtain ⟨ss,hpl,hps⟩:=zfs len one;refine ⟨ss,⟨by rw[yads,Nat.mul_one],some a,cap,by rw[hpl],⟨by rw[hpl];exact hl,fun e=>by cases e⟩,fun hn=>?_⟩,by rw[hpl];omega,fun k hk=>(hps k hk).2⟩;obtain ⟨b,off,spot⟩:=a;have hc:=(hps 0 hn).1
  have hspot:spot=none:=by simpa[Addr.add] using World.cell?_spot hc
  subst hspot;refine ⟨b,off,rfl,World.block_lt_of_cell? W _ (by simpa[Addr.add] using hc),fun j hj=>?_⟩
  have hk:j < ss.length:=by omega
  have q:=(hps j hk).1;simp only[Addr.add_lit,Nat.mul_one] at q;rw[q,zvb ss j hk]
end
theorem yash:Tryz.prog.cellsOf 36=10:=by kernel_rfl
theorem yask:Tryz.prog.cellsOf 34=3:=by kernel_rfl
theorem yavl:Tryz.prog.cellsOf 4=1:=by kernel_rfl
theorem yasj {cs:Array Value} (h:cs.size=10):∃ a b c d e f g i j k,cs=#[a,b,c,d,e,f,g,i,j,k]:=by
 obtain ⟨l⟩:=cs
 match l,h with
 | [a,b,c,d,e,f,g,i,j,k],_=>exact ⟨a,b,c,d,e,f,g,i,j,k,rfl⟩
theorem yark {H:Type} {enc:TypeId×Value→H} {W:World} {sp:Nat→Bool} {held:Bool} {r:Reach} {b0:Nat} {v:Value} {d:DataW H} {p:List MemPlace}
  (hv:Value.okWide Tryz.prog W r b0 36 v) (h:DataW.Trod enc Tryz.prog W 0 sp held 36 v d p) :
  ∃ (ws:List Int) (ps:List St) (es:List Int) (qs:List Se) (hs:List Int) (td:List Mi) (cd vl:Int) (nm:List ByteArray) (fr:Bool),RdF W v ws ps es qs hs td cd vl nm fr∧(ws.length≤maxLen∧ps.length≤maxLen∧es.length≤maxLen∧qs.length≤maxLen∧hs.length≤maxLen∧td.length≤maxLen∧nm.length≤maxLen)∧∀ k (hk:k < nm.length),nm[k].size≤maxLen:=by
 obtain ⟨cs,rfl,hsz⟩:=okWide_struct Tryz.underlying36 hv;obtain ⟨c0,c1,c2,c3,c4,c5,c6,c7,c8,c9,rfl⟩:=yasj (hsz.trans yash);obtain ⟨fuel,hf⟩:=h;obtain ⟨y0,y1,y2,y3,y4,n,hx,h0,h1,h2,h3,h4⟩:=zyk Tryz.underlying36 hf
 have kI:Tryz.prog.cellsOf 22=1:=by kernel_rfl
 have kS:Tryz.prog.cellsOf 23=1:=by kernel_rfl
 have kE:Tryz.prog.cellsOf 26=1:=by kernel_rfl
 have kM:Tryz.prog.cellsOf 31=1:=by kernel_rfl
 have kT:Tryz.prog.cellsOf 32=1:=by kernel_rfl
 simp only[yanb,yask,yavl,kI,kM] at h0 h1 h2 h3 h4;obtain ⟨z0,z1,m0,_,_,d0,d1⟩:=trod_struct2 Tryz.underlying30 h0;simp only[yats,yaps] at d0 d1;obtain ⟨y00,y01,n0,_,_,h00,h01⟩:=trod_struct2 Tryz.underlying25 d0;obtain ⟨y10,y11,n1,_,_,h10,h11⟩:=trod_struct2 Tryz.underlying28 d1;simp only[kI,kS,kE] at h00 h01 h10 h11;obtain ⟨ws,hI0,hwl0,_⟩:=zkv (v:=c0) (by simpa[Value.cells] using h00);obtain ⟨ps,hS0,hpl0,_⟩:=yaoy (v:=c1) (by simpa[Value.cells] using h01);obtain ⟨es,hI1,hwl1,_⟩:=zkv (v:=c2) (by simpa[Value.cells] using h10);obtain ⟨qs,hS1,hpl1,_⟩:=yamn (v:=c3) (by simpa[Value.cells] using h11);obtain ⟨hs,hH,hhl,_⟩:=zkv (v:=c4) (by simpa[Value.cells] using h1);obtain ⟨td,hT,htl,_⟩:=yapv (v:=c5) (by simpa[Value.cells] using h2);obtain ⟨u0,u1,u2,n',_,_,t0,t1,t2⟩:=Deep.trod_struct3 Tryz.underlying34 h3;simp only[yaue,kT] at t0 t1 t2;obtain ⟨q0,e0,_,_⟩:=DataW.trod_int Tryz.underlying3 t0;obtain ⟨q1,e1,_,_⟩:=DataW.trod_int Tryz.underlying3 t1;obtain ⟨nm,hN,hnl,hns⟩:=yaoo (v:=c8) (by simpa[Value.cells] using t2);obtain ⟨fr,e9,_⟩:=DataW.trod_bool Tryz.underlying4 h4;simp[Value.cells] at e0 e1 e9;subst e0 e1 e9;obtain ⟨aW,cW,rfl,_⟩:=hI0.shape;obtain ⟨aP,cP,rfl,_⟩:=hS0.shape;obtain ⟨aS,cS,rfl,_⟩:=hI1.shape;obtain ⟨aQ,cQ,rfl,_⟩:=hS1.shape;obtain ⟨aH,cH,rfl,_⟩:=hH.shape;obtain ⟨-,aT,cT,rfl,-⟩:=id hT;obtain ⟨aN,cN,rfl,_⟩:=hN.shape;exact ⟨ws,ps,es,qs,hs,td,q0,q1,nm,fr,⟨_,_,_,_,_,_,_,_,_,_,_,_,_,_,rfl,⟨_,_,_,_,rfl,⟨_,_,rfl,hI0,hS0⟩,⟨_,_,rfl,hI1,hS1⟩⟩,hH,hT,hN⟩,⟨hwl0,hpl0,hwl1,hpl1,hhl,htl,hnl⟩,hns⟩
end Go.Proofs.YtahiphgmhndgaaaGreatDoor

namespace Go.Proofs.YtahiphgmhndgaaaGreatDoor
open Go.ChangeShapes Go.WideShapes Go.ChangeAt Go.RowKit Go.Joins
theorem zkm {H:Type} {enc:TypeId×Value→H} {P:Program} {w:World} {base:Nat} {sp:Nat→Bool} {held:Bool} {fuel:Nat} {t e:TypeId} {n:Nat} {cs:List Value} {zs:List Int} {p:List MemPlace}
  (ht:P.underlying t=some (.array n e)) (he:P.underlying e=some (.int .i64)) (hce:P.cellsOf e=1) (hct:P.cellsOf t=n)
  (h:DataW.trod enc P w base sp held fuel t cs=some (.agg (zs.map fun z=>.lit (.int .i64 z)),p)):cs=zs.map (Value.int .i64):=by
 cases fuel with
 | zero=>simp[DataW.trod] at h
 | succ fuel =>
  simp only[DataW.trod,ht,hce,hct,Nat.mul_one] at h
  split at h
  ·rename_i hl;obtain ⟨xs,hm,hx⟩:=Option.map_eq_some_iff.1 h
   have hxs:xs.map (·.1)=zs.map fun z=>(DataW.lit (.int .i64 z):DataW H):=by
    have:=congrArg Prod.fst hx;simpa using this
   have hxl:xs.length=n:=by simpa using Lib.mapM_length hm
   have hzl:zs.length=n:=by
    have:=congrArg List.length hxs;simp at this;omega
   apply List.ext_getElem?;intro i
   by_cases hi:i < n
   ·obtain ⟨b,hb,hf⟩:=Lib.mapM_at hm i i (by simp[hi]);obtain ⟨z,hc,rfl,_⟩:=DataW.trod_int he hf
    have h1:cs[i]?=some (.int .i64 z):=by
     have:=congrArg (·[0]?) hc;simpa[List.getElem?_take,List.getElem?_drop] using this
    have h2:(xs.map (·.1))[i]?=some (DataW.lit (.int .i64 z):DataW H):=by simp[hb]
    rw[hxs] at h2;simp only[List.getElem?_map,Option.map_eq_some_iff,DataW.lit.injEq,Lit.int.injEq] at h2;obtain ⟨z',hz',e⟩:=h2;simp[h1,hz',e.2]
   ·rw[List.getElem?_eq_none (by omega),List.getElem?_eq_none (by simp;omega)]
  ·cases h
theorem yaim:Tryz.prog.cellsOf 187=11:=by kernel_rfl
theorem yarb:Tryz.prog.cellsOf 185=8:=by kernel_rfl
theorem yahf:Tryz.prog.cellsOf 189=3:=by kernel_rfl
theorem yavo:Tryz.prog.cellsOf 9=1:=by kernel_rfl
section
variable {H:Type} {enc:TypeId×Value→H} {W:World} {base:Nat} {sp:Nat→Bool} {held:Bool} {fuel:Nat} {v:Value} {y:DataW H×List MemPlace}
end
section
variable {H:Type} {enc:TypeId×Value→H} {W:World} {sp:Nat→Bool} {held:Bool} {r:Reach} {b0:Nat} {v:Value} {d:DataW H} {p:List MemPlace}
end
section
variable {H:Type} {enc:TypeId×Value→H} {w:World} {base:Nat} {sp:Nat→Bool} {held:Bool} {fuel:Nat} {cs:List Value} {p:List MemPlace}
theorem yaod (h:DataW.trod enc Tryz.prog w base sp held fuel 248 cs=some (.agg [.lit (.int .i64 1),.lit (.int .i64 24),.lit (.int .i64 32)],p)):cs=[.int .i64 1,.int .i64 24,.int .i64 32] :=
 zkm (zs:=[1,24,32]) Tryz.underlying248 Tryz.underlying3 zkx (show Tryz.prog.cellsOf 248=3 by kernel_rfl) h
theorem yams (h:DataW.trod enc Tryz.prog w base sp held fuel 187 cs=some (.agg [.lit (.int .i64 2),.lit (.int .i64 0),.lit (.int .i64 1),.agg [.lit (.int .i64 0),.lit (.int .i64 0),.lit (.int .i64 0),.lit (.int .i64 0),.lit (.int .i64 0),.lit (.int .i64 0),.lit (.int .i64 0),.lit (.int .i64 0)]],p)) :
  cs=[.int .i64 2,.int .i64 0,.int .i64 1,.int .i64 0,.int .i64 0,.int .i64 0,.int .i64 0,.int .i64 0,.int .i64 0,.int .i64 0,.int .i64 0]:=by
 obtain ⟨y0,y1,y2,y3,n,hx,hl,t0,t1,t2,t3⟩:=trod_struct4 Tryz.underlying187 h;obtain ⟨z0,e0,hy0,_⟩:=DataW.trod_int Tryz.underlying3 t0;obtain ⟨z1,e1,hy1,_⟩:=DataW.trod_int Tryz.underlying3 t1;obtain ⟨z2,e2,hy2,_⟩:=DataW.trod_int Tryz.underlying3 t2;obtain ⟨y3a,y3b⟩:=y3;subst hy0 hy1 hy2;simp only[Prod.mk.injEq,DataW.agg.injEq,List.cons.injEq,DataW.lit.injEq,Lit.int.injEq,true_and,and_true] at hx;obtain ⟨⟨g0,g1,g2,g3⟩,_⟩:=hx;subst g3;have A:=zkm (zs:=[0,0,0,0,0,0,0,0]) Tryz.underlying185 Tryz.underlying3 zkx yarb t3;rw[yaim] at hl;simp only[zkx,yarb] at e0 e1 e2 A
 match cs,hl with
 | [c0,c1,c2,c3,c4,c5,c6,c7,c8,c9,c10],_ =>
  simp at e0 e1 e2 A;rw[e0,e1,e2,← g0,← g1,← g2,A.1,A.2.1,A.2.2.1,A.2.2.2.1,A.2.2.2.2.1,A.2.2.2.2.2.1,A.2.2.2.2.2.2.1,A.2.2.2.2.2.2.2]
theorem yapq (h:DataW.trod enc Tryz.prog w base sp held fuel 189 cs=some (.agg [.lit (.int .i64 0),.lit (.string []),.lit (.int .i64 (-1))],p)):cs=[.int .i64 0,.string ⟨#[]⟩,.int .i64 (-1)]:=by
 obtain ⟨y0,y1,y2,n,hx,hl,t0,t1,t2⟩:=Deep.trod_struct3 Tryz.underlying189 h;obtain ⟨z0,e0,hy0,_⟩:=DataW.trod_int Tryz.underlying3 t0;obtain ⟨s,e1,hy1,_⟩:=DataW.trod_string Tryz.underlying9 t1;obtain ⟨z2,e2,hy2,_⟩:=DataW.trod_int Tryz.underlying3 t2;subst hy0 hy1 hy2;simp only[Prod.mk.injEq,DataW.agg.injEq,List.cons.injEq,DataW.lit.injEq,Lit.int.injEq,Lit.string.injEq,true_and,and_true] at hx;obtain ⟨⟨g0,g1,g2⟩,_⟩:=hx;rw[yahf] at hl;simp only[zkx,yavo] at e0 e1 e2
 match cs,hl with
 | [c0,c1,c2],_ =>
  simp at e0 e1 e2
  have hs:s=⟨#[]⟩:=by
   obtain ⟨⟨l⟩⟩:=s;have g1':([]:List UInt8)=l:=g1;rw[← g1']
  rw[e0,e1,e2,← g0,← g2,hs]
end
end Go.Proofs.YtahiphgmhndgaaaGreatDoor

namespace Go.Proofs.YtahiphgmhndgaaaGreatDoor
open Go.ChangeShapes Go.WideShapes Go.ChangeAt Go.RowKit Go.Joins
theorem yatf:Tryz.prog.cellsOf 150=2:=by kernel_rfl
theorem yaom {H:Type} {enc:TypeId×Value→H} {w:World} {base:Nat} {sp:Nat→Bool} {held:Bool} {fuel:Nat} {cs:List Value} {p:List MemPlace}
  (h:DataW.trod enc Tryz.prog w base sp held fuel 150 cs=some (.agg [.lit (.int .i64 (-1)),.lit (.int .i64 0)],p)):cs=[.int .i64 (-1),.int .i64 0]:=by
 obtain ⟨y0,y1,n,hx,hl,t0,t1⟩:=trod_struct2 Tryz.underlying150 h;obtain ⟨z0,e0,hy0,_⟩:=DataW.trod_int Tryz.underlying3 t0;obtain ⟨z1,e1,hy1,_⟩:=DataW.trod_int Tryz.underlying3 t1;rw[yatf] at hl;subst hy0 hy1;simp only[zkx] at e0 e1
 match cs,hl with
 | [c0,c1],_ =>
  simp at e0 e1 hx;subst e0 e1;rw[hx.1.1,hx.1.2]
end Go.Proofs.YtahiphgmhndgaaaGreatDoor

namespace Go.Proofs.YtahiphgmhndgaaaGreatDoor
open Go.ChangeShapes Go.WideShapes Go.ChangeAt Go.RowKit
theorem yarr:Tryz.prog.cellsOf 3=1:=by kernel_rfl
theorem zyg:Tryz.prog.cellsOf 176=2:=by kernel_rfl
theorem yasx:Tryz.prog.cellsOf 177=12:=by kernel_rfl
theorem yagd {H:Type} {enc:TypeId×Value→H} {w:World} {base:Nat} {sp:Nat→Bool} {held:Bool} {fuel:Nat} {cs:List Value} {p:List MemPlace} {a b:Int}
  (h:DataW.trod enc Tryz.prog w base sp held fuel 176 cs=some (.agg [.lit (.int .i64 a),.lit (.int .i64 b)],p)):cs=[.int .i64 a,.int .i64 b]:=by
 obtain ⟨y0,y1,n,hx,hl,t0,t1⟩:=trod_struct2 Tryz.underlying176 h;obtain ⟨z0,e0,hy0,_⟩:=DataW.trod_int Tryz.underlying3 t0;obtain ⟨z1,e1,hy1,_⟩:=DataW.trod_int Tryz.underlying3 t1;rw[zyg] at hl;subst hy0 hy1;simp only[yarr] at e0 e1
 match cs,hl with
 | [c0,c1],_ =>
  simp at e0 e1 hx;subst e0 e1;rw[hx.1.1,hx.1.2]
theorem yame {zs:List (Int×Int)} {cs:List Value} (hz:zs.length=6) (hl:cs.length=12) (chunk:∀ i,i < 6→∃ z,zs[i]?=some z∧(cs.drop (i*2)).take 2=[.int .i64 z.1,.int .i64 z.2]):cs=zs.flatMap fun z=>[.int .i64 z.1,.int .i64 z.2]:=by
 match zs,hz,cs,hl,chunk with
 | [z0,z1,z2,z3,z4,z5],_,[c0,c1,c2,c3,c4,c5,c6,c7,c8,c9,c10,c11],_,chunk =>
  have k0:=chunk 0 (by omega);have k1:=chunk 1 (by omega);have k2:=chunk 2 (by omega);have k3:=chunk 3 (by omega);have k4:=chunk 4 (by omega);have k5:=chunk 5 (by omega);simp at k0 k1 k2 k3 k4 k5;simp[k0,k1,k2,k3,k4,k5]
theorem yanp {H:Type} {enc:TypeId×Value→H} {w:World} {base:Nat} {sp:Nat→Bool} {held:Bool} {fuel:Nat} {cs:List Value} {p:List MemPlace} {zs:List (Int×Int)} (hz:zs.length=6)
  (h:DataW.trod enc Tryz.prog w base sp held fuel 177 cs=some (.agg (zs.map fun z=>.agg [.lit (.int .i64 z.1),.lit (.int .i64 z.2)]),p)):cs=zs.flatMap fun z=>[.int .i64 z.1,.int .i64 z.2]:=by
 cases fuel with
 | zero=>simp[DataW.trod] at h
 | succ fuel =>
  simp only[DataW.trod,Tryz.underlying177,zyg,yasx] at h
  split at h
  ·rename_i hl;obtain ⟨xs,hm,hx⟩:=Option.map_eq_some_iff.1 h
   have hxs:xs.map (·.1)=zs.map fun z=>(DataW.agg [.lit (.int .i64 z.1),.lit (.int .i64 z.2)]:DataW H):=by
    have:=congrArg Prod.fst hx;simpa using this
   refine yame hz hl (fun i hi=>?_);obtain ⟨b,hb,hf⟩:=Lib.mapM_at hm i i (by simp[hi])
   have h2:(xs.map (·.1))[i]?=some b.1:=by simp[hb]
   rw[hxs,List.getElem?_map,List.getElem?_eq_getElem (by omega)] at h2;have h3:=Option.some.inj h2;obtain ⟨b1,b2⟩:=b;simp only at h3;subst h3;exact ⟨_,List.getElem?_eq_getElem (by omega),yagd hf⟩
  ·cases h
end Go.Proofs.YtahiphgmhndgaaaGreatDoor
