/- Several texts laid together: OpenD, OpenM, OpenO, OpenF, OpenI, OpenMd. -/
import Derived.Test.YtbohndgbfbfldaaGreatDoorDev
import Derived.Test.YtbohndgbfbfldaaGreatDoorZBJ
import Derived.Test.YtbohndgbfbfldaaGreatDoorZBX
import Derived.Test.YtbohndgbfbfldaaGreatDoorZAP
import Derived.Test.YtbohndgbfbfldaaGreatDoorZBI
import Derived.Deep.Strs
import Derived.Test.YtbohndgbfbfldaaGreatDoorZAG
import Derived.Test.YtbohndgbfbfldaaGreatDoorZAI
import Derived.Lib.LaidTab
import Derived.Lib.SmallJoins
import Derived.Deep.RegionLaw
import Derived.Test.YtbohndgbfbfldaaGreatDoorZAU
set_option maxRecDepth 100000
namespace Go.Proofs.YtbohndgbfbfldaaGreatDoor
open Go.ChangeShapes Go.WideShapes Go.ChangeAt Go.RowKit Go.Joins
theorem zzc:Tryz.prog.cellsOf 57=4:=by kernel_rfl
end Go.Proofs.YtbohndgbfbfldaaGreatDoor

namespace Go.Proofs.YtbohndgbfbfldaaGreatDoor
open Go.ChangeShapes Go.WideShapes Go.ChangeAt Go.RowKit Go.Joins
theorem zxc:Tryz.prog.cellsOf 180=3:=by kernel_rfl
section
variable {H:Type} {enc:TypeId×Value→H} {W:World} {sp:Nat→Bool} {held:Bool} {fuel:Nat} {v:Value} {y:DataW H×List MemPlace}
theorem zww (h:DataW.trod enc Tryz.prog W 0 sp held fuel 58 [v]=some y):∃ ps:List Mi,RdM W v ps∧ps.length≤maxLen∧∀ p∈ps,(Lit.int .i64 p.at_).wf=true∧(Lit.int .i64 p.val).wf=true:=by
 rcases Deep.open_slice Tryz.underlying58 h with ⟨hcs,_⟩ | ⟨a,len,cap,m,n,D,Pl,hcs,_,hl,hm,hmm,_,hel⟩
 ·simp only[List.cons.injEq,and_true] at hcs;subst hcs;exact ⟨[],⟨rfl,none,0,rfl,⟨Nat.le_refl _,fun _=>rfl⟩,fun h=>absurd h (by simp)⟩,by simp,fun p hp=>by simp at hp⟩
 ·simp only[List.cons.injEq,and_true] at hcs;subst hcs
  have hlm:len≤m:=by rw[hmm];split <;> omega
  have one:∀ i,i < len→∃ s:Mi,(W.cell? ((a.add (i*3)).add 0)=some (.int .i64 s.kind)∧W.cell? ((a.add (i*3)).add 1)=some (.int .i64 s.at_)∧W.cell? ((a.add (i*3)).add 2)=some (.int .i64 s.val))∧(Lit.int .i64 s.at_).wf=true∧(Lit.int .i64 s.val).wf=true:=by
   intro i hi;obtain ⟨cs,hcs,ht⟩:=hel i (by omega);rw[zxc] at hcs;obtain ⟨_,hlen,hc⟩:=World.cells?_some hcs;obtain ⟨y0,y1,y2,n',_,_,t0,t1,t2⟩:=Deep.trod_struct3 Tryz.underlying180 ht;obtain ⟨z0,e0,_,w0⟩:=DataW.trod_int Tryz.underlying3 t0;obtain ⟨z1,e1,_,w1⟩:=DataW.trod_int Tryz.underlying3 t1;obtain ⟨z2,e2,_,w2⟩:=DataW.trod_int Tryz.underlying3 t2;simp only[zdp] at e0 e1 e2
   match cs,hlen with
   | [c0,c1,c2],_ =>
    simp at e0 e1 e2;subst e0 e1 e2;exact ⟨⟨z0,z1,z2⟩,⟨by simpa using hc 0 (by omega),by simpa using hc 1 (by omega),by simpa using hc 2 (by omega)⟩,w1,w2⟩
  obtain ⟨ps,hpl,hps⟩:=zbl len one;refine ⟨ps,⟨ztq ps,some a,cap,by rw[hpl],⟨by rw[hpl];exact hl,fun e=>by cases e⟩,fun hn=>?_⟩,by rw[hpl];omega,fun p hp=>?_⟩
  ·obtain ⟨b,off,spot⟩:=a;have hc:=(hps 0 hn).1.1
   have hspot:spot=none:=by simpa[Addr.add] using World.cell?_spot hc
   subst hspot;refine ⟨b,off,rfl,World.block_lt_of_cell? W _ (by simpa[Addr.add] using hc),fun j hj=>?_⟩
   have hk:j / 3 < ps.length:=by omega
   obtain ⟨⟨q0,q1,q2⟩,_⟩:=hps (j / 3) hk;simp only[Addr.add_lit,Nat.add_zero] at q0 q1 q2
   have hj3:j=j / 3*3+j % 3:=by omega
   rcases (show j % 3=0∨j % 3=1∨j % 3=2 from by omega) with r | r | r
   ·rw[hj3,r,Nat.add_zero,q0,zkv ps _ hk]
   ·rw[hj3,r,← Nat.add_assoc,q1,zkk ps _ hk]
   ·rw[hj3,r,← Nat.add_assoc,q2,zlc ps _ hk]
  ·obtain ⟨i,hi,rfl⟩:=List.getElem_of_mem hp;exact (hps i hi).2
end
end Go.Proofs.YtbohndgbfbfldaaGreatDoor

namespace Go.Proofs.YtbohndgbfbfldaaGreatDoor
open Go.ChangeShapes Go.WideShapes Go.ChangeAt Go.RowKit Go.Joins
theorem yaci:Tryz.prog.cellsOf 66=5:=by kernel_rfl
theorem yaal:Tryz.prog.cellsOf 3=1:=by kernel_rfl
theorem zzs:Tryz.prog.cellsOf 9=1:=by kernel_rfl
theorem zds {H:Type} {enc:TypeId×Value→H} {P:Program} {w:World} {base:Nat} {spare:Nat→Bool} {held:Bool} {t:TypeId} {f0 f1 f2 f3 f4:Field} {fuel:Nat} {cs:List Value} {x:DataW H×List MemPlace} (ht:P.underlying t=some (.struct #[f0,f1,f2,f3,f4])) (h:DataW.trod enc P w base spare held fuel t cs=some x) :
  ∃ y0 y1 y2 y3 y4 n,cs.length=P.cellsOf t∧DataW.trod enc P w base spare held n f0.type ((cs.drop f0.offset).take (P.cellsOf f0.type))=some y0∧DataW.trod enc P w base spare held n f1.type ((cs.drop f1.offset).take (P.cellsOf f1.type))=some y1∧DataW.trod enc P w base spare held n f2.type ((cs.drop f2.offset).take (P.cellsOf f2.type))=some y2∧DataW.trod enc P w base spare held n f3.type ((cs.drop f3.offset).take (P.cellsOf f3.type))=some y3∧DataW.trod enc P w base spare held n f4.type ((cs.drop f4.offset).take (P.cellsOf f4.type))=some y4:=by
 obtain ⟨xs,n,_,rfl,hl,hlen,hf⟩:=DataW.trod_struct ht h
 match xs,hlen with
 | [y0,y1,y2,y3,y4],_=>exact ⟨y0,y1,y2,y3,y4,n,hl,by simpa using hf 0 f0 rfl,by simpa using hf 1 f1 rfl,by simpa using hf 2 f2 rfl,by simpa using hf 3 f3 rfl,by simpa using hf 4 f4 rfl⟩
end Go.Proofs.YtbohndgbfbfldaaGreatDoor

namespace Go.Proofs.YtbohndgbfbfldaaGreatDoor
open Go.ChangeShapes Go.WideShapes Go.ChangeAt Go.RowKit Go.Joins
section
variable {H:Type} {enc:TypeId×Value→H} {W:World} {sp:Nat→Bool} {held:Bool} {fuel:Nat} {v:Value} {y:DataW H×List MemPlace}
theorem zqi (h:DataW.trod enc Tryz.prog W 0 sp held fuel 32 [v]=some y):∃ ss:List ByteArray,RdT W v ss∧ss.length≤maxLen∧∀ k (hk:k < ss.length),ss[k].size≤maxLen:=by
 rcases Deep.open_slice Tryz.underlying32 h with ⟨hcs,_⟩ | ⟨a,len,cap,m,n,D,Pl,hcs,_,hl,hm,hmm,_,hel⟩
 ·simp only[List.cons.injEq,and_true] at hcs;subst hcs;exact ⟨[],⟨rfl,none,0,rfl,⟨Nat.le_refl _,fun _=>rfl⟩,fun h=>absurd h (by simp)⟩,by simp,fun k hk=>by simp at hk⟩
 ·simp only[List.cons.injEq,and_true] at hcs;subst hcs
  have hlm:len≤m:=by rw[hmm];split <;> omega
  have one:∀ i,i < len→∃ s:ByteArray,W.cell? (a.add (i*1))=some (.string s)∧s.size≤maxLen:=by
   intro i hi;obtain ⟨cs,hcs,ht⟩:=hel i (by omega);rw[zzs] at hcs;obtain ⟨_,hlen,hc⟩:=World.cells?_some hcs;obtain ⟨s,e0,_,w0⟩:=DataW.trod_string Tryz.underlying9 ht;subst e0;exact ⟨s,by have:=hc 0 (by omega);simpa[Addr.add] using this,by simpa using w0⟩
  obtain ⟨ss,hpl,hps⟩:=zbl len one;refine ⟨ss,⟨by rw[zwy,Nat.mul_one],some a,cap,by rw[hpl],⟨by rw[hpl];exact hl,fun e=>by cases e⟩,fun hn=>?_⟩,by rw[hpl];omega,fun k hk=>(hps k hk).2⟩;obtain ⟨b,off,spot⟩:=a;have hc:=(hps 0 hn).1
  have hspot:spot=none:=by simpa[Addr.add] using World.cell?_spot hc
  subst hspot;refine ⟨b,off,rfl,World.block_lt_of_cell? W _ (by simpa[Addr.add] using hc),fun j hj=>?_⟩
  have hk:j < ss.length:=by omega
  have q:=(hps j hk).1;simp only[Addr.add_lit,Nat.mul_one] at q;rw[q,zqc ss j hk]
end
theorem yaau:Tryz.prog.cellsOf 61=10:=by kernel_rfl
theorem zok:Tryz.prog.cellsOf 59=3:=by kernel_rfl
theorem yaaj:Tryz.prog.cellsOf 4=1:=by kernel_rfl
end Go.Proofs.YtbohndgbfbfldaaGreatDoor

namespace Go.Proofs.YtbohndgbfbfldaaGreatDoor
open Go.ChangeShapes Go.WideShapes Go.ChangeAt Go.RowKit Go.Joins
theorem zfg {H:Type} {enc:TypeId×Value→H} {P:Program} {w:World} {base:Nat} {sp:Nat→Bool} {held:Bool} {fuel:Nat} {t e:TypeId} {n:Nat} {cs:List Value} {zs:List Int} {p:List MemPlace}
  (ht:P.underlying t=some (.array n e)) (he:P.underlying e=some (.int .i64)) (hce:P.cellsOf e=1) (hct:P.cellsOf t=n)
  (h:DataW.trod enc P w base sp held fuel t cs=some (.agg (zs.map fun z=>.lit (.int .i64 z)),p)):cs=zs.map (Value.int .i64):=by
 cases fuel with
 | zero=>simp[DataW.trod] at h
 | succ fuel =>
  simp only[DataW.trod,ht,hce,hct,Nat.mul_one] at h
  split at h
  ·rename_i hl;obtain ⟨xs,hm,hx⟩:=Option.map_eq_some_iff.1 h
   have hxs:xs.map (·.1)=zs.map fun z=>(DataW.lit (.int .i64 z):DataW H):=by
    have:=congrArg Prod.fst hx;simpa using this
   have hxl:xs.length=n:=by simpa using Lib.mapM_length hm
   have hzl:zs.length=n:=by
    have:=congrArg List.length hxs;simp at this;omega
   apply List.ext_getElem?;intro i
   by_cases hi:i < n
   ·obtain ⟨b,hb,hf⟩:=Lib.mapM_at hm i i (by simp[hi]);obtain ⟨z,hc,rfl,_⟩:=DataW.trod_int he hf
    have h1:cs[i]?=some (.int .i64 z):=by
     have:=congrArg (·[0]?) hc;simpa[List.getElem?_take,List.getElem?_drop] using this
    have h2:(xs.map (·.1))[i]?=some (DataW.lit (.int .i64 z):DataW H):=by simp[hb]
    rw[hxs] at h2;simp only[List.getElem?_map,Option.map_eq_some_iff,DataW.lit.injEq,Lit.int.injEq] at h2;obtain ⟨z',hz',e⟩:=h2;simp[h1,hz',e.2]
   ·rw[List.getElem?_eq_none (by omega),List.getElem?_eq_none (by simp;omega)]
  ·cases h
theorem zug:Tryz.prog.cellsOf 149=11:=by kernel_rfl
theorem yaad:Tryz.prog.cellsOf 147=8:=by kernel_rfl
theorem zqw:Tryz.prog.cellsOf 171=3:=by kernel_rfl
theorem zun:Tryz.prog.cellsOf 143=3:=by kernel_rfl
theorem zzy:Tryz.prog.cellsOf 9=1:=by kernel_rfl
section
variable {H:Type} {enc:TypeId×Value→H} {W:World} {base:Nat} {sp:Nat→Bool} {held:Bool} {fuel:Nat} {v:Value} {y:DataW H×List MemPlace}
theorem ztv {cs:List Value} (h:DataW.trod enc Tryz.prog W base sp held fuel 171 cs=some y):∃ x:Den,cs=x.cells∧x.name.size≤maxLen∧((Lit.int .i64 x.dir).wf=true∧(Lit.int .i64 x.child).wf=true):=by
 obtain ⟨y0,y1,y2,n,_,hl,t0,t1,t2⟩:=Deep.trod_struct3 Tryz.underlying171 h;obtain ⟨z0,e0,_,w0⟩:=DataW.trod_int Tryz.underlying3 t0;obtain ⟨s,e1,_,w1⟩:=DataW.trod_string Tryz.underlying9 t1;obtain ⟨z2,e2,_,w2⟩:=DataW.trod_int Tryz.underlying3 t2;rw[zqw] at hl;simp only[zdp,zzy] at e0 e1 e2
 match cs,hl with
 | [c0,c1,c2],_ =>
  simp at e0 e1 e2;subst e0 e1 e2;exact ⟨⟨z0,s,z2⟩,rfl,by simpa using w1,w0,w2⟩
theorem zxy (h:DataW.trod enc Tryz.prog W 0 sp held fuel 63 [v]=some y):∃ ps:List Den,RdD W v ps∧ps.length≤maxLen∧∀ k (h:k < ps.length),ps[k].name.size≤maxLen:=by
 rcases Deep.open_slice Tryz.underlying63 h with ⟨hcs,_⟩ | ⟨a,len,cap,m,n,D,Pl,hcs,_,hl,hm,hmm,_,hel⟩
 ·simp only[List.cons.injEq,and_true] at hcs;subst hcs;exact ⟨[],⟨rfl,none,0,rfl,⟨Nat.le_refl _,fun _=>rfl⟩,fun h=>absurd h (by simp)⟩,by simp,fun k hk=>absurd hk (by simp)⟩
 ·simp only[List.cons.injEq,and_true] at hcs;subst hcs
  have hlm:len≤m:=by rw[hmm];split <;> omega
  have one:∀ i,i < len→∃ x:Den,(∀ j,j < 3→W.cell? ((a.add (i*3)).add j)=x.cells[j]?)∧x.name.size≤maxLen:=by
   intro i hi;obtain ⟨cs,hcs,ht⟩:=hel i (by omega);rw[zqw] at hcs;obtain ⟨_,hlen,hc⟩:=World.cells?_some hcs;obtain ⟨x,rfl,hR,_⟩:=ztv ht;exact ⟨x,fun j hj=>by rw[hc j hj,List.getElem?_eq_getElem (by rw[hlen];exact hj)],hR⟩
  obtain ⟨ps,hpl,hps⟩:=zbl len one;refine ⟨ps,⟨zhg ps,some a,cap,by rw[hpl],⟨by rw[hpl];exact hl,fun e=>by cases e⟩,fun hn=>?_⟩,by rw[hpl];omega,fun k hk=>(hps k hk).2⟩;obtain ⟨b,off,spot⟩:=a;have hc:=(hps 0 hn).1 0 (by omega);have hc':W.cell? ((({ block:=b,off:=off,spot:=spot }:Addr).add (0*3)).add 0)=some (.int .i64 ps[0].dir):=hc
  have hspot:spot=none:=by simpa[Addr.add] using World.cell?_spot hc'
  subst hspot;refine ⟨b,off,rfl,World.block_lt_of_cell? W _ (by simpa[Addr.add] using hc'),fun j hj=>?_⟩
  have hk:j / 3 < ps.length:=by omega
  have q:=(hps (j / 3) hk).1 (j % 3) (by omega);simp only[Addr.add_lit] at q
  have hj3:j=j / 3*3+j % 3:=by omega
  have e1:off+j=off+j / 3*3+j % 3:=by omega
  have e2:(zcv ps)[j / 3*3+j % 3]?=ps[j / 3].cells[j % 3]?:=(zan _ 3 Den.cells_len ps (j / 3) (j % 3) hk (by omega)).trans (by rw[List.getElem?_eq_getElem (show j % 3 < ps[j / 3].cells.length by rw[Den.cells_len];omega)]);rw[← hj3] at e2;rw[e1,q];exact e2.symm
end
section
variable {H:Type} {enc:TypeId×Value→H} {W:World} {sp:Nat→Bool} {held:Bool} {r:Reach} {b0:Nat} {v:Value} {d:DataW H} {p:List MemPlace}
end
section
variable {H:Type} {enc:TypeId×Value→H} {w:World} {base:Nat} {sp:Nat→Bool} {held:Bool} {fuel:Nat} {cs:List Value} {p:List MemPlace}
theorem zzk (h:DataW.trod enc Tryz.prog w base sp held fuel 260 cs=some (.agg [.lit (.int .i64 1),.lit (.int .i64 24),.lit (.int .i64 32)],p)):cs=[.int .i64 1,.int .i64 24,.int .i64 32] :=
 zfg (zs:=[1,24,32]) Tryz.underlying260 Tryz.underlying3 zdp (show Tryz.prog.cellsOf 260=3 by kernel_rfl) h
theorem zxm (h:DataW.trod enc Tryz.prog w base sp held fuel 149 cs=some (.agg [.lit (.int .i64 2),.lit (.int .i64 0),.lit (.int .i64 1),.agg [.lit (.int .i64 0),.lit (.int .i64 0),.lit (.int .i64 0),.lit (.int .i64 0),.lit (.int .i64 0),.lit (.int .i64 0),.lit (.int .i64 0),.lit (.int .i64 0)]],p)) :
  cs=[.int .i64 2,.int .i64 0,.int .i64 1,.int .i64 0,.int .i64 0,.int .i64 0,.int .i64 0,.int .i64 0,.int .i64 0,.int .i64 0,.int .i64 0]:=by
 obtain ⟨y0,y1,y2,y3,n,hx,hl,t0,t1,t2,t3⟩:=trod_struct4 Tryz.underlying149 h;obtain ⟨z0,e0,hy0,_⟩:=DataW.trod_int Tryz.underlying3 t0;obtain ⟨z1,e1,hy1,_⟩:=DataW.trod_int Tryz.underlying3 t1;obtain ⟨z2,e2,hy2,_⟩:=DataW.trod_int Tryz.underlying3 t2;obtain ⟨y3a,y3b⟩:=y3;subst hy0 hy1 hy2;simp only[Prod.mk.injEq,DataW.agg.injEq,List.cons.injEq,DataW.lit.injEq,Lit.int.injEq,true_and,and_true] at hx;obtain ⟨⟨g0,g1,g2,g3⟩,_⟩:=hx;subst g3;have A:=zfg (zs:=[0,0,0,0,0,0,0,0]) Tryz.underlying147 Tryz.underlying3 zdp yaad t3;rw[zug] at hl;simp only[zdp,yaad] at e0 e1 e2 A
 match cs,hl with
 | [c0,c1,c2,c3,c4,c5,c6,c7,c8,c9,c10],_ =>
  simp at e0 e1 e2 A;rw[e0,e1,e2,← g0,← g1,← g2,A.1,A.2.1,A.2.2.1,A.2.2.2.1,A.2.2.2.2.1,A.2.2.2.2.2.1,A.2.2.2.2.2.2.1,A.2.2.2.2.2.2.2]
theorem zwu (h:DataW.trod enc Tryz.prog w base sp held fuel 143 cs=some (.agg [.lit (.int .i64 0),.lit (.string []),.lit (.int .i64 (-1))],p)):cs=[.int .i64 0,.string ⟨#[]⟩,.int .i64 (-1)]:=by
 obtain ⟨y0,y1,y2,n,hx,hl,t0,t1,t2⟩:=Deep.trod_struct3 Tryz.underlying143 h;obtain ⟨z0,e0,hy0,_⟩:=DataW.trod_int Tryz.underlying3 t0;obtain ⟨s,e1,hy1,_⟩:=DataW.trod_string Tryz.underlying9 t1;obtain ⟨z2,e2,hy2,_⟩:=DataW.trod_int Tryz.underlying3 t2;subst hy0 hy1 hy2;simp only[Prod.mk.injEq,DataW.agg.injEq,List.cons.injEq,DataW.lit.injEq,Lit.int.injEq,Lit.string.injEq,true_and,and_true] at hx;obtain ⟨⟨g0,g1,g2⟩,_⟩:=hx;rw[zun] at hl;simp only[zdp,zzy] at e0 e1 e2
 match cs,hl with
 | [c0,c1,c2],_ =>
  simp at e0 e1 e2
  have hs:s=⟨#[]⟩:=by
   obtain ⟨⟨l⟩⟩:=s;have g1':([]:List UInt8)=l:=g1;rw[← g1']
  rw[e0,e1,e2,← g0,← g2,hs]
end
end Go.Proofs.YtbohndgbfbfldaaGreatDoor

namespace Go.Proofs.YtbohndgbfbfldaaGreatDoor
open Go.ChangeShapes Go.WideShapes Go.ChangeAt Go.RowKit Go.Joins
theorem zuv:Tryz.prog.cellsOf 169=3:=by kernel_rfl
theorem yabw:Tryz.prog.cellsOf 65=2:=by kernel_rfl
theorem yaat:Tryz.prog.cellsOf 22=1:=by kernel_rfl
def Th.R (t:Th):Prop:=(Lit.int .i64 t.kind).wf=true∧(Lit.int .i64 t.links).wf=true∧∀ z∈t.pages,(Lit.int .i64 z).wf=true
section
variable {H:Type} {enc:TypeId×Value→H} {W:World} {sp:Nat→Bool} {held:Bool} {fuel:Nat} {v:Value} {y:DataW H×List MemPlace}
theorem zyk {cs:List Value} (h:DataW.trod enc Tryz.prog W 0 sp held fuel 169 cs=some y):∃ u:Th×Value,cs=thc u∧RdI W u.2 u.1.pages∧u.1.pages.length≤maxLen∧u.1.R:=by
 obtain ⟨y0,y1,y2,n,_,hl,t0,t1,t2⟩:=Deep.trod_struct3 Tryz.underlying169 h;obtain ⟨z0,e0,_,w0⟩:=DataW.trod_int Tryz.underlying3 t0;obtain ⟨z1,e1,_,w1⟩:=DataW.trod_int Tryz.underlying3 t1;rw[zuv] at hl;simp only[zdp,yaat] at e0 e1 t2
 match cs,hl with
 | [c0,c1,c2],_ =>
  simp at e0 e1 t2;subst e0 e1;obtain ⟨zs,a1,a2,a3⟩:=zhd t2;exact ⟨(⟨z0,z1,zs⟩,c2),rfl,a1,a2,w0,w1,a3⟩
theorem zwh (h:DataW.trod enc Tryz.prog W 0 sp held fuel 62 [v]=some y):∃ ts:List Th,RdTh W v ts∧ts.length≤maxLen∧(∀ k (h:k < ts.length),ts[k].pages.length≤maxLen)∧∀ k (h:k < ts.length),ts[k].R:=by
 rcases Deep.open_slice Tryz.underlying62 h with ⟨hcs,_⟩ | ⟨a,len,cap,m,n,D,Pl,hcs,_,hl,hm,hmm,_,hel⟩
 ·simp only[List.cons.injEq,and_true] at hcs;subst hcs;exact ⟨[],⟨[],rfl,⟨rfl,none,0,rfl,⟨Nat.le_refl _,fun _=>rfl⟩,fun h=>absurd h (by simp)⟩,fun k hk=>absurd hk (by simp)⟩,by simp,fun k hk=>absurd hk (by simp),fun k hk=>absurd hk (by simp)⟩
 ·simp only[List.cons.injEq,and_true] at hcs;subst hcs
  have hlm:len≤m:=by rw[hmm];split <;> omega
  have one:∀ i,i < len→∃ u:Th×Value,(∀ j,j < 3→W.cell? ((a.add (i*3)).add j)=(thc u)[j]?)∧RdI W u.2 u.1.pages∧u.1.pages.length≤maxLen∧u.1.R:=by
   intro i hi;obtain ⟨cs,hcs,ht⟩:=hel i (by omega);rw[zuv] at hcs;obtain ⟨_,hlen,hc⟩:=World.cells?_some hcs;obtain ⟨x,rfl,hR⟩:=zyk ht;exact ⟨x,fun j hj=>by rw[hc j hj,List.getElem?_eq_getElem (by rw[hlen];exact hj)],hR⟩
  obtain ⟨us,hpl,hps⟩:=zbl len one;have ML:(us.map Prod.fst).length=us.length:=List.length_map ..;refine ⟨us.map Prod.fst,⟨us,rfl,⟨zpx us,some a,cap,by rw[hpl],⟨by rw[hpl];exact hl,fun e=>by cases e⟩,fun hn=>?_⟩,fun k hk=>(hps k hk).2.1⟩,by rw[ML,hpl];omega,fun k hk=>?_,fun k hk=>?_⟩
  ·obtain ⟨b,off,spot⟩:=a;have hc:=(hps 0 hn).1 0 (by omega);have hc':W.cell? ((({ block:=b,off:=off,spot:=spot }:Addr).add (0*3)).add 0)=some (.int .i64 us[0].1.kind):=hc
   have hspot:spot=none:=by simpa[Addr.add] using World.cell?_spot hc'
   subst hspot;refine ⟨b,off,rfl,World.block_lt_of_cell? W _ (by simpa[Addr.add] using hc'),fun j hj=>?_⟩
   have hk:j / 3 < us.length:=by omega
   have q:=(hps (j / 3) hk).1 (j % 3) (by omega);simp only[Addr.add_lit] at q
   have hj3:j=j / 3*3+j % 3:=by omega
   have e1:off+j=off+j / 3*3+j % 3:=by omega
   have e2:(thv us)[j / 3*3+j % 3]?=(thc us[j / 3])[j % 3]?:=(zan _ 3 zig us (j / 3) (j % 3) hk (by omega))
   rw[← hj3] at e2;rw[e1,q];exact e2.symm
  ·rw[ML] at hk;rw[List.getElem_map];exact (hps k hk).2.2.1
  ·rw[ML] at hk;rw[List.getElem_map];exact (hps k hk).2.2.2
end
section
variable {H:Type} {enc:TypeId×Value→H} {W:World} {sp:Nat→Bool} {held:Bool} {r:Reach} {b0:Nat} {v:Value} {d:DataW H} {p:List MemPlace}
end
end Go.Proofs.YtbohndgbfbfldaaGreatDoor
