/- Several texts laid together: OpenI, OpenW, OpenB, OpenD, OpenO. -/
import Derived.Test.YtehnphoeplmpdaaGreatDoorZAD
import Derived.Test.YtehnphoeplmpdaaGreatDoorZAG
import Derived.Test.YtehnphoeplmpdaaGreatDoorZAV
import Derived.Lib.LaidTab
import Derived.Lib.SmallJoins
import Derived.Test.YtehnphoeplmpdaaGreatDoorZBM
import Derived.Test.YtehnphoeplmpdaaGreatDoorZAW
import Derived.Test.YtehnphoeplmpdaaGreatDoorDev
import Derived.Deep.Strs
set_option maxRecDepth 100000
namespace Go.Proofs.YtehnphoeplmpdaaGreatDoor
open Go.ChangeShapes Go.WideShapes Go.ChangeAt Go.RowKit Go.Joins
theorem zkb {H:Type} {enc:TypeId×Value→H} {P:Program} {w:World} {base:Nat} {sp:Nat→Bool} {held:Bool} {fuel:Nat} {t e:TypeId} {n:Nat} {cs:List Value} {zs:List Int} {p:List MemPlace}
  (ht:P.underlying t=some (.array n e)) (he:P.underlying e=some (.int .i64)) (hce:P.cellsOf e=1) (hct:P.cellsOf t=n)
  (h:DataW.trod enc P w base sp held fuel t cs=some (.agg (zs.map fun z=>.lit (.int .i64 z)),p)):cs=zs.map (Value.int .i64):=by
 cases fuel with
 | zero=>simp[DataW.trod] at h
 | succ fuel =>
  simp only[DataW.trod,ht,hce,hct,Nat.mul_one] at h
  split at h
  ·rename_i hl;obtain ⟨xs,hm,hx⟩:=Option.map_eq_some_iff.1 h
   have hxs:xs.map (·.1)=zs.map fun z=>(DataW.lit (.int .i64 z):DataW H):=by
    have:=congrArg Prod.fst hx;simpa using this
   have hxl:xs.length=n:=by simpa using Lib.mapM_length hm
   have hzl:zs.length=n:=by
    have:=congrArg List.length hxs;simp at this;omega
   apply List.ext_getElem?;intro i
   by_cases hi:i < n
   ·obtain ⟨b,hb,hf⟩:=Lib.mapM_at hm i i (by simp[hi]);obtain ⟨z,hc,rfl,_⟩:=DataW.trod_int he hf
    have h1:cs[i]?=some (.int .i64 z):=by
     have:=congrArg (·[0]?) hc;simpa[List.getElem?_take,List.getElem?_drop] using this
    have h2:(xs.map (·.1))[i]?=some (DataW.lit (.int .i64 z):DataW H):=by simp[hb]
    rw[hxs] at h2;simp only[List.getElem?_map,Option.map_eq_some_iff,DataW.lit.injEq,Lit.int.injEq] at h2;obtain ⟨z',hz',e⟩:=h2;simp[h1,hz',e.2]
   ·rw[List.getElem?_eq_none (by omega),List.getElem?_eq_none (by simp;omega)]
  ·cases h
theorem yagx:Tryz.prog.cellsOf 133=11:=by kernel_rfl
theorem yanu:Tryz.prog.cellsOf 131=8:=by kernel_rfl
theorem yaey:Tryz.prog.cellsOf 185=3:=by kernel_rfl
theorem yaqw:Tryz.prog.cellsOf 9=1:=by kernel_rfl
section
variable {H:Type} {enc:TypeId×Value→H} {W:World} {base:Nat} {sp:Nat→Bool} {held:Bool} {fuel:Nat} {v:Value} {y:DataW H×List MemPlace}
end
section
variable {H:Type} {enc:TypeId×Value→H} {W:World} {sp:Nat→Bool} {held:Bool} {r:Reach} {b0:Nat} {v:Value} {d:DataW H} {p:List MemPlace}
end
section
variable {H:Type} {enc:TypeId×Value→H} {w:World} {base:Nat} {sp:Nat→Bool} {held:Bool} {fuel:Nat} {cs:List Value} {p:List MemPlace}
theorem yakl (h:DataW.trod enc Tryz.prog w base sp held fuel 290 cs=some (.agg [.lit (.int .i64 1),.lit (.int .i64 24),.lit (.int .i64 32)],p)):cs=[.int .i64 1,.int .i64 24,.int .i64 32] :=
 zkb (zs:=[1,24,32]) Tryz.underlying290 Tryz.underlying3 zmg (show Tryz.prog.cellsOf 290=3 by kernel_rfl) h
theorem yalz (h:DataW.trod enc Tryz.prog w base sp held fuel 133 cs=some (.agg [.lit (.int .i64 2),.lit (.int .i64 0),.lit (.int .i64 1),.agg [.lit (.int .i64 0),.lit (.int .i64 0),.lit (.int .i64 0),.lit (.int .i64 0),.lit (.int .i64 0),.lit (.int .i64 0),.lit (.int .i64 0),.lit (.int .i64 0)]],p)) :
  cs=[.int .i64 2,.int .i64 0,.int .i64 1,.int .i64 0,.int .i64 0,.int .i64 0,.int .i64 0,.int .i64 0,.int .i64 0,.int .i64 0,.int .i64 0]:=by
 obtain ⟨y0,y1,y2,y3,n,hx,hl,t0,t1,t2,t3⟩:=trod_struct4 Tryz.underlying133 h;obtain ⟨z0,e0,hy0,_⟩:=DataW.trod_int Tryz.underlying3 t0;obtain ⟨z1,e1,hy1,_⟩:=DataW.trod_int Tryz.underlying3 t1;obtain ⟨z2,e2,hy2,_⟩:=DataW.trod_int Tryz.underlying3 t2;obtain ⟨y3a,y3b⟩:=y3;subst hy0 hy1 hy2;simp only[Prod.mk.injEq,DataW.agg.injEq,List.cons.injEq,DataW.lit.injEq,Lit.int.injEq,true_and,and_true] at hx;obtain ⟨⟨g0,g1,g2,g3⟩,_⟩:=hx;subst g3;have A:=zkb (zs:=[0,0,0,0,0,0,0,0]) Tryz.underlying131 Tryz.underlying3 zmg yanu t3;rw[yagx] at hl;simp only[zmg,yanu] at e0 e1 e2 A
 match cs,hl with
 | [c0,c1,c2,c3,c4,c5,c6,c7,c8,c9,c10],_ =>
  simp at e0 e1 e2 A;rw[e0,e1,e2,← g0,← g1,← g2,A.1,A.2.1,A.2.2.1,A.2.2.2.1,A.2.2.2.2.1,A.2.2.2.2.2.1,A.2.2.2.2.2.2.1,A.2.2.2.2.2.2.2]
theorem yamu (h:DataW.trod enc Tryz.prog w base sp held fuel 185 cs=some (.agg [.lit (.int .i64 0),.lit (.string []),.lit (.int .i64 (-1))],p)):cs=[.int .i64 0,.string ⟨#[]⟩,.int .i64 (-1)]:=by
 obtain ⟨y0,y1,y2,n,hx,hl,t0,t1,t2⟩:=Deep.trod_struct3 Tryz.underlying185 h;obtain ⟨z0,e0,hy0,_⟩:=DataW.trod_int Tryz.underlying3 t0;obtain ⟨s,e1,hy1,_⟩:=DataW.trod_string Tryz.underlying9 t1;obtain ⟨z2,e2,hy2,_⟩:=DataW.trod_int Tryz.underlying3 t2;subst hy0 hy1 hy2;simp only[Prod.mk.injEq,DataW.agg.injEq,List.cons.injEq,DataW.lit.injEq,Lit.int.injEq,Lit.string.injEq,true_and,and_true] at hx;obtain ⟨⟨g0,g1,g2⟩,_⟩:=hx;rw[yaey] at hl;simp only[zmg,yaqw] at e0 e1 e2
 match cs,hl with
 | [c0,c1,c2],_ =>
  simp at e0 e1 e2
  have hs:s=⟨#[]⟩:=by
   obtain ⟨⟨l⟩⟩:=s;have g1':([]:List UInt8)=l:=g1;rw[← g1']
  rw[e0,e1,e2,← g0,← g2,hs]
end
end Go.Proofs.YtehnphoeplmpdaaGreatDoor

namespace Go.Proofs.YtehnphoeplmpdaaGreatDoor
open Go.ChangeShapes Go.WideShapes Go.ChangeAt Go.RowKit Go.Joins
theorem yaoe:Tryz.prog.cellsOf 193=2:=by kernel_rfl
theorem yakv {H:Type} {enc:TypeId×Value→H} {w:World} {base:Nat} {sp:Nat→Bool} {held:Bool} {fuel:Nat} {cs:List Value} {p:List MemPlace}
  (h:DataW.trod enc Tryz.prog w base sp held fuel 193 cs=some (.agg [.lit (.int .i64 (-1)),.lit (.int .i64 0)],p)):cs=[.int .i64 (-1),.int .i64 0]:=by
 obtain ⟨y0,y1,n,hx,hl,t0,t1⟩:=trod_struct2 Tryz.underlying193 h;obtain ⟨z0,e0,hy0,_⟩:=DataW.trod_int Tryz.underlying3 t0;obtain ⟨z1,e1,hy1,_⟩:=DataW.trod_int Tryz.underlying3 t1;rw[yaoe] at hl;subst hy0 hy1;simp only[zmg] at e0 e1
 match cs,hl with
 | [c0,c1],_ =>
  simp at e0 e1 hx;subst e0 e1;rw[hx.1.1,hx.1.2]
end Go.Proofs.YtehnphoeplmpdaaGreatDoor

namespace Go.Proofs.YtehnphoeplmpdaaGreatDoor
open Go.ChangeShapes Go.WideShapes Go.ChangeAt Go.RowKit Go.Joins
theorem yalv:Tryz.prog.cellsOf 195=2:=by kernel_rfl
theorem yaky:Tryz.prog.cellsOf 28=2:=by kernel_rfl
section
variable {H:Type} {enc:TypeId×Value→H} {W:World} {sp:Nat→Bool} {held:Bool} {fuel:Nat} {v:Value} {y:DataW H×List MemPlace}
theorem yaly (h:DataW.trod enc Tryz.prog W 0 sp held fuel 26 [v]=some y):∃ ps:List Se,RdE W v ps∧ps.length≤maxLen∧∀ p∈ps,(Lit.int .i64 p.at_).wf=true∧(Lit.int .i64 p.val).wf=true:=by
 rcases Deep.open_slice Tryz.underlying26 h with ⟨hcs,_⟩ | ⟨a,len,cap,m,n,D,Pl,hcs,_,hl,hm,hmm,_,hel⟩
 ·simp only[List.cons.injEq,and_true] at hcs;subst hcs;exact ⟨[],⟨rfl,none,0,rfl,⟨Nat.le_refl _,fun _=>rfl⟩,fun h=>absurd h (by simp)⟩,by simp,fun p hp=>by simp at hp⟩
 ·simp only[List.cons.injEq,and_true] at hcs;subst hcs
  have hlm:len≤m:=by rw[hmm];split <;> omega
  have one:∀ i,i < len→∃ s:Se,(W.cell? ((a.add (i*2)).add 0)=some (.int .i64 s.at_)∧W.cell? ((a.add (i*2)).add 1)=some (.int .i64 s.val) )∧(Lit.int .i64 s.at_).wf=true∧(Lit.int .i64 s.val).wf=true:=by
   intro i hi;obtain ⟨cs,hcs,ht⟩:=hel i (by omega);rw[yalv] at hcs;obtain ⟨_,hlen,hc⟩:=World.cells?_some hcs;obtain ⟨y0,y1,n',_,_,t0,t1⟩:=ChangeShapes.trod_struct2 Tryz.underlying195 ht;obtain ⟨z0,e0,_,w0⟩:=DataW.trod_int Tryz.underlying3 t0;obtain ⟨z1,e1,_,w1⟩:=DataW.trod_int Tryz.underlying3 t1;simp only[zmg] at e0 e1
   match cs,hlen with
   | [c0,c1],_ =>
    simp at e0 e1;subst e0 e1;exact ⟨⟨z0,z1⟩,⟨by simpa using hc 0 (by omega),by simpa using hc 1 (by omega)⟩,w0,w1⟩
  obtain ⟨ps,hpl,hps⟩:=zjj len one;refine ⟨ps,⟨yain ps,some a,cap,by rw[hpl],⟨by rw[hpl];exact hl,fun e=>by cases e⟩,fun hn=>?_⟩,by rw[hpl];omega,fun p hp=>?_⟩
  ·obtain ⟨b,off,spot⟩:=a;have hc:=(hps 0 hn).1.1
   have hspot:spot=none:=by simpa[Addr.add] using World.cell?_spot hc
   subst hspot;refine ⟨b,off,rfl,World.block_lt_of_cell? W _ (by simpa[Addr.add] using hc),fun j hj=>?_⟩
   have hk:j / 2 < ps.length:=by omega
   obtain ⟨⟨q0,q1⟩,_⟩:=hps (j / 2) hk;simp only[Addr.add_lit,Nat.add_zero] at q0 q1
   have hj3:j=j / 2*2+j % 2:=by omega
   rcases (show j % 2=0∨j % 2=1 from by omega) with r | r
   ·rw[hj3,r,Nat.add_zero,q0,zts ps _ hk]
   ·rw[hj3,r,← Nat.add_assoc,q1,zsd ps _ hk]
  ·obtain ⟨i,hi,rfl⟩:=List.getElem_of_mem hp;exact (hps i hi).2
end
end Go.Proofs.YtehnphoeplmpdaaGreatDoor

namespace Go.Proofs.YtehnphoeplmpdaaGreatDoor
open Go.ChangeShapes Go.WideShapes Go.ChangeAt Go.RowKit Go.Joins
theorem yamt:Tryz.prog.cellsOf 30=4:=by kernel_rfl
theorem yaqn {cs:Array Value} (h:cs.size=4):∃ a b c d,cs=#[a,b,c,d]:=by
 obtain ⟨l⟩:=cs
 match l,h with
 | [a,b,c,d],_=>exact ⟨a,b,c,d,rfl⟩
theorem yalu {H:Type} {enc:TypeId×Value→H} {W:World} {sp:Nat→Bool} {held:Bool} {r:Reach} {b0:Nat} {v:Value} {d:DataW H} {p:List MemPlace}
  (hv:Value.okWide Tryz.prog W r b0 30 v) (h:DataW.Trod enc Tryz.prog W 0 sp held 30 v d p) :
  ∃ (ws:List Int) (ps:List St) (es:List Int) (qs:List Se),RdDev W v ws ps es qs∧ws.length≤maxLen∧ps.length≤maxLen∧es.length≤maxLen∧qs.length≤maxLen:=by
 obtain ⟨cs,rfl,hsz⟩:=okWide_struct Tryz.underlying30 hv;obtain ⟨c0,c1,c2,c3,rfl⟩:=yaqn (hsz.trans yamt);obtain ⟨fuel,hf⟩:=h;obtain ⟨y0,y1,n,hx,_,h0,h1⟩:=trod_struct2 Tryz.underlying30 hf;simp only[yapd,yaky] at h0 h1;obtain ⟨y00,y01,n0,_,_,h00,h01⟩:=trod_struct2 Tryz.underlying25 h0;obtain ⟨y10,y11,n1,_,_,h10,h11⟩:=trod_struct2 Tryz.underlying28 h1
 have k0:Tryz.prog.cellsOf 22=1:=by kernel_rfl
 have k1:Tryz.prog.cellsOf 23=1:=by kernel_rfl
 have k2:Tryz.prog.cellsOf 26=1:=by kernel_rfl
 simp only[k0,k1,k2] at h00 h01 h10 h11;obtain ⟨ws,hI0,hwl0,_⟩:=yaao (v:=c0) (by simpa[Value.cells] using h00);obtain ⟨ps,hS0,hpl0,_⟩:=yakz (v:=c1) (by simpa[Value.cells] using h01);obtain ⟨es,hI1,hwl1,_⟩:=yaao (v:=c2) (by simpa[Value.cells] using h10);obtain ⟨qs,hS1,hpl1,_⟩:=yaly (v:=c3) (by simpa[Value.cells] using h11);exact ⟨ws,ps,es,qs,⟨_,_,_,_,rfl,⟨_,_,rfl,hI0,hS0⟩,⟨_,_,rfl,hI1,hS1⟩⟩,hwl0,hpl0,hwl1,hpl1⟩
end Go.Proofs.YtehnphoeplmpdaaGreatDoor

namespace Go.Proofs.YtehnphoeplmpdaaGreatDoor
open Go.ChangeShapes Go.WideShapes Go.ChangeAt Go.RowKit Go.Joins
theorem yaob:Tryz.prog.cellsOf 32=5:=by kernel_rfl
theorem yaqm:Tryz.prog.cellsOf 3=1:=by kernel_rfl
theorem yaso:Tryz.prog.cellsOf 9=1:=by kernel_rfl
theorem zwh {H:Type} {enc:TypeId×Value→H} {P:Program} {w:World} {base:Nat} {spare:Nat→Bool} {held:Bool} {t:TypeId} {f0 f1 f2 f3 f4:Field} {fuel:Nat} {cs:List Value} {x:DataW H×List MemPlace} (ht:P.underlying t=some (.struct #[f0,f1,f2,f3,f4])) (h:DataW.trod enc P w base spare held fuel t cs=some x) :
  ∃ y0 y1 y2 y3 y4 n,cs.length=P.cellsOf t∧DataW.trod enc P w base spare held n f0.type ((cs.drop f0.offset).take (P.cellsOf f0.type))=some y0∧DataW.trod enc P w base spare held n f1.type ((cs.drop f1.offset).take (P.cellsOf f1.type))=some y1∧DataW.trod enc P w base spare held n f2.type ((cs.drop f2.offset).take (P.cellsOf f2.type))=some y2∧DataW.trod enc P w base spare held n f3.type ((cs.drop f3.offset).take (P.cellsOf f3.type))=some y3∧DataW.trod enc P w base spare held n f4.type ((cs.drop f4.offset).take (P.cellsOf f4.type))=some y4:=by
 obtain ⟨xs,n,_,rfl,hl,hlen,hf⟩:=DataW.trod_struct ht h
 match xs,hlen with
 | [y0,y1,y2,y3,y4],_=>exact ⟨y0,y1,y2,y3,y4,n,hl,by simpa using hf 0 f0 rfl,by simpa using hf 1 f1 rfl,by simpa using hf 2 f2 rfl,by simpa using hf 3 f3 rfl,by simpa using hf 4 f4 rfl⟩
theorem yaoy {H:Type} {enc:TypeId×Value→H} {W:World} {sp:Nat→Bool} {held:Bool} {r:Reach} {b0:Nat} {v:Value} {d:DataW H} {p:List MemPlace}
  (hv:Value.okWide Tryz.prog W r b0 32 v) (h:DataW.Trod enc Tryz.prog W 0 sp held 32 v d p) :
  ∃ (k:Int) (s t:ByteArray) (g y:Int),v=.agg #[.int .i64 k,.string s,.string t,.int .i64 g,.int .i64 y]∧s.size≤maxLen∧t.size≤maxLen:=by
 obtain ⟨cs,rfl,hsz⟩:=okWide_struct Tryz.underlying32 hv;obtain ⟨fuel,hf⟩:=h;obtain ⟨y0,y1,y2,y3,y4,n,hl,t0,t1,t2,t3,t4⟩:=zwh Tryz.underlying32 hf;obtain ⟨z0,e0,_,w0⟩:=DataW.trod_int Tryz.underlying3 t0;obtain ⟨s,e1,_,w1⟩:=DataW.trod_string Tryz.underlying9 t1;obtain ⟨t,e2,_,w2⟩:=DataW.trod_string Tryz.underlying9 t2;obtain ⟨z3,e3,_,w3⟩:=DataW.trod_int Tryz.underlying3 t3;obtain ⟨z4,e4,_,w4⟩:=DataW.trod_int Tryz.underlying3 t4;rw[yaob] at hl;simp only[yaqm,yaso] at e0 e1 e2 e3 e4
 have e:cs.toList=[.int .i64 z0,.string s,.string t,.int .i64 z3,.int .i64 z4]:=by
  revert hl e0 e1 e2 e3 e4
  simp only[Value.cells];generalize cs.toList=l;intro hl e0 e1 e2 e3 e4
  match l,hl with
  | [c0,c1,c2,c3,c4],_ =>
   simp at e0 e1 e2 e3 e4;rw[e0,e1,e2,e3,e4]
 refine ⟨z0,s,t,z3,z4,?_,by simpa using w1,by simpa using w2⟩
 cases cs with
 | mk l=>simp only at e;rw[e]
end Go.Proofs.YtehnphoeplmpdaaGreatDoor
