/- Several texts laid together: OpenI, OpenW. -/
import Derived.Test.YtbohndgbfbfldaaGreatDoorZAG
import Derived.Test.YtbohndgbfbfldaaGreatDoorZAJ
import Derived.Test.YtbohndgbfbfldaaGreatDoorZBM
import Derived.Lib.LaidTab
import Derived.Lib.SmallJoins
import Derived.Test.YtbohndgbfbfldaaGreatDoorZBQ
set_option maxRecDepth 100000
namespace Go.Proofs.YtbohndgbfbfldaaGreatDoor
open Go.ChangeShapes Go.WideShapes Go.ChangeAt Go.RowKit Go.Joins
theorem zfg {H:Type} {enc:TypeId×Value→H} {P:Program} {w:World} {base:Nat} {sp:Nat→Bool} {held:Bool} {fuel:Nat} {t e:TypeId} {n:Nat} {cs:List Value} {zs:List Int} {p:List MemPlace}
  (ht:P.underlying t=some (.array n e)) (he:P.underlying e=some (.int .i64)) (hce:P.cellsOf e=1) (hct:P.cellsOf t=n)
  (h:DataW.trod enc P w base sp held fuel t cs=some (.agg (zs.map fun z=>.lit (.int .i64 z)),p)):cs=zs.map (Value.int .i64):=by
 cases fuel with
 | zero=>simp[DataW.trod] at h
 | succ fuel =>
  simp only[DataW.trod,ht,hce,hct,Nat.mul_one] at h
  split at h
  ·rename_i hl;obtain ⟨xs,hm,hx⟩:=Option.map_eq_some_iff.1 h
   have hxs:xs.map (·.1)=zs.map fun z=>(DataW.lit (.int .i64 z):DataW H):=by
    have:=congrArg Prod.fst hx;simpa using this
   have hxl:xs.length=n:=by simpa using Lib.mapM_length hm
   have hzl:zs.length=n:=by
    have:=congrArg List.length hxs;simp at this;omega
   apply List.ext_getElem?;intro i
   by_cases hi:i < n
   ·obtain ⟨b,hb,hf⟩:=Lib.mapM_at hm i i (by simp[hi]);obtain ⟨z,hc,rfl,_⟩:=DataW.trod_int he hf
    have h1:cs[i]?=some (.int .i64 z):=by
     have:=congrArg (·[0]?) hc;simpa[List.getElem?_take,List.getElem?_drop] using this
    have h2:(xs.map (·.1))[i]?=some (DataW.lit (.int .i64 z):DataW H):=by simp[hb]
    rw[hxs] at h2;simp only[List.getElem?_map,Option.map_eq_some_iff,DataW.lit.injEq,Lit.int.injEq] at h2;obtain ⟨z',hz',e⟩:=h2;simp[h1,hz',e.2]
   ·rw[List.getElem?_eq_none (by omega),List.getElem?_eq_none (by simp;omega)]
  ·cases h
theorem zvk:Tryz.prog.cellsOf 149=11:=by kernel_rfl
theorem yaao:Tryz.prog.cellsOf 147=8:=by kernel_rfl
theorem zvo:Tryz.prog.cellsOf 143=3:=by kernel_rfl
theorem yadz:Tryz.prog.cellsOf 9=1:=by kernel_rfl
section
variable {H:Type} {enc:TypeId×Value→H} {W:World} {base:Nat} {sp:Nat→Bool} {held:Bool} {fuel:Nat} {v:Value} {y:DataW H×List MemPlace}
end
section
variable {H:Type} {enc:TypeId×Value→H} {W:World} {sp:Nat→Bool} {held:Bool} {r:Reach} {b0:Nat} {v:Value} {d:DataW H} {p:List MemPlace}
end
section
variable {H:Type} {enc:TypeId×Value→H} {w:World} {base:Nat} {sp:Nat→Bool} {held:Bool} {fuel:Nat} {cs:List Value} {p:List MemPlace}
theorem zzk (h:DataW.trod enc Tryz.prog w base sp held fuel 260 cs=some (.agg [.lit (.int .i64 1),.lit (.int .i64 24),.lit (.int .i64 32)],p)):cs=[.int .i64 1,.int .i64 24,.int .i64 32] :=
 zfg (zs:=[1,24,32]) Tryz.underlying260 Tryz.underlying3 zme (show Tryz.prog.cellsOf 260=3 by kernel_rfl) h
theorem zyt (h:DataW.trod enc Tryz.prog w base sp held fuel 149 cs=some (.agg [.lit (.int .i64 2),.lit (.int .i64 0),.lit (.int .i64 1),.agg [.lit (.int .i64 0),.lit (.int .i64 0),.lit (.int .i64 0),.lit (.int .i64 0),.lit (.int .i64 0),.lit (.int .i64 0),.lit (.int .i64 0),.lit (.int .i64 0)]],p)) :
  cs=[.int .i64 2,.int .i64 0,.int .i64 1,.int .i64 0,.int .i64 0,.int .i64 0,.int .i64 0,.int .i64 0,.int .i64 0,.int .i64 0,.int .i64 0]:=by
 obtain ⟨y0,y1,y2,y3,n,hx,hl,t0,t1,t2,t3⟩:=trod_struct4 Tryz.underlying149 h;obtain ⟨z0,e0,hy0,_⟩:=DataW.trod_int Tryz.underlying3 t0;obtain ⟨z1,e1,hy1,_⟩:=DataW.trod_int Tryz.underlying3 t1;obtain ⟨z2,e2,hy2,_⟩:=DataW.trod_int Tryz.underlying3 t2;obtain ⟨y3a,y3b⟩:=y3;subst hy0 hy1 hy2;simp only[Prod.mk.injEq,DataW.agg.injEq,List.cons.injEq,DataW.lit.injEq,Lit.int.injEq,true_and,and_true] at hx;obtain ⟨⟨g0,g1,g2,g3⟩,_⟩:=hx;subst g3;have A:=zfg (zs:=[0,0,0,0,0,0,0,0]) Tryz.underlying147 Tryz.underlying3 zme yaao t3;rw[zvk] at hl;simp only[zme,yaao] at e0 e1 e2 A
 match cs,hl with
 | [c0,c1,c2,c3,c4,c5,c6,c7,c8,c9,c10],_ =>
  simp at e0 e1 e2 A;rw[e0,e1,e2,← g0,← g1,← g2,A.1,A.2.1,A.2.2.1,A.2.2.2.1,A.2.2.2.2.1,A.2.2.2.2.2.1,A.2.2.2.2.2.2.1,A.2.2.2.2.2.2.2]
theorem zxu (h:DataW.trod enc Tryz.prog w base sp held fuel 143 cs=some (.agg [.lit (.int .i64 0),.lit (.string []),.lit (.int .i64 (-1))],p)):cs=[.int .i64 0,.string ⟨#[]⟩,.int .i64 (-1)]:=by
 obtain ⟨y0,y1,y2,n,hx,hl,t0,t1,t2⟩:=Deep.trod_struct3 Tryz.underlying143 h;obtain ⟨z0,e0,hy0,_⟩:=DataW.trod_int Tryz.underlying3 t0;obtain ⟨s,e1,hy1,_⟩:=DataW.trod_string Tryz.underlying9 t1;obtain ⟨z2,e2,hy2,_⟩:=DataW.trod_int Tryz.underlying3 t2;subst hy0 hy1 hy2;simp only[Prod.mk.injEq,DataW.agg.injEq,List.cons.injEq,DataW.lit.injEq,Lit.int.injEq,Lit.string.injEq,true_and,and_true] at hx;obtain ⟨⟨g0,g1,g2⟩,_⟩:=hx;rw[zvo] at hl;simp only[zme,yadz] at e0 e1 e2
 match cs,hl with
 | [c0,c1,c2],_ =>
  simp at e0 e1 e2
  have hs:s=⟨#[]⟩:=by
   obtain ⟨⟨l⟩⟩:=s;have g1':([]:List UInt8)=l:=g1;rw[← g1']
  rw[e0,e1,e2,← g0,← g2,hs]
end
end Go.Proofs.YtbohndgbfbfldaaGreatDoor

namespace Go.Proofs.YtbohndgbfbfldaaGreatDoor
open Go.ChangeShapes Go.WideShapes Go.ChangeAt Go.RowKit Go.Joins
theorem yabq:Tryz.prog.cellsOf 208=2:=by kernel_rfl
theorem zxa {H:Type} {enc:TypeId×Value→H} {w:World} {base:Nat} {sp:Nat→Bool} {held:Bool} {fuel:Nat} {cs:List Value} {p:List MemPlace}
  (h:DataW.trod enc Tryz.prog w base sp held fuel 208 cs=some (.agg [.lit (.int .i64 (-1)),.lit (.int .i64 0)],p)):cs=[.int .i64 (-1),.int .i64 0]:=by
 obtain ⟨y0,y1,n,hx,hl,t0,t1⟩:=trod_struct2 Tryz.underlying208 h;obtain ⟨z0,e0,hy0,_⟩:=DataW.trod_int Tryz.underlying3 t0;obtain ⟨z1,e1,hy1,_⟩:=DataW.trod_int Tryz.underlying3 t1;rw[yabq] at hl;subst hy0 hy1;simp only[zme] at e0 e1
 match cs,hl with
 | [c0,c1],_ =>
  simp at e0 e1 hx;subst e0 e1;rw[hx.1.1,hx.1.2]
end Go.Proofs.YtbohndgbfbfldaaGreatDoor
