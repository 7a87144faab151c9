import Derived.Lib.LaidTab
import Derived.Test.YtdiaiejmoocpmaaGreatDoorZBS
import Derived.Test.YtdiaiejmoocpmaaGreatDoorZBW
import Derived.ChangeSame
set_option maxRecDepth 100000
namespace Go.Proofs.YtdiaiejmoocpmaaGreatDoor
open Go.ChangeShapes Go.WideShapes Go.ChangeAt Go.RowKit Go.Joins
theorem zmd {H:Type} {enc:TypeId×Value->H} {P:Program} {w:World} {base:Nat} {sp:Nat->Bool} {held:Bool} {fuel:Nat} {t e:TypeId} {n:Nat} {cs:List Value} {zs:List Int} {p:List MemPlace}
  (ht:P.underlying t=some (.array n e)) (he:P.underlying e=some (.int .i64)) (hce:P.cellsOf e=1) (hct:P.cellsOf t=n)
  (h:DataW.trod enc P w base sp held fuel t cs=some (.agg (zs.map fun z=>.lit (.int .i64 z)),p)):cs=zs.map (Value.int .i64):=by
 cases fuel with
 | zero=>simp[DataW.trod]at h
 | succ fuel =>
  simp only[DataW.trod,ht,hce,hct,Nat.mul_one]at h
  split at h
  ·rename_i hl;obtain⟨xs,hm,hx⟩:=Option.map_eq_some_iff.1 h
   have hxs:xs.map (·.1)=zs.map fun z=>(DataW.lit (.int .i64 z):DataW H):=by
    have:=congrArg Prod.fst hx;simpa using this
   have hxl:xs.length=n:=by simpa using Lib.mapM_length hm
   have hzl:zs.length=n:=by
    have:=congrArg List.length hxs;simp at this;omega
   apply List.ext_getElem?;intro i
   by_cases hi:i<n
   ·obtain⟨b,hb,hf⟩:=Lib.mapM_at hm i i (by simp[hi]);obtain⟨z,hc,rfl,_⟩:=DataW.trod_int he hf
    have h1:cs[i]?=some (.I z):=by
     have:=congrArg (·[0]?) hc;simpa[List.getElem?_take,List.getElem?_drop]using this
    have h2:(xs.map (·.1))[i]?=some (DataW.lit (.int .i64 z):DataW H):=by simp[hb]
    rw[hxs]at h2;simp only[List.getElem?_map,Option.map_eq_some_iff,DataW.lit.injEq,Lit.int.injEq]at h2;obtain⟨z',hz',e⟩:=h2;simp[h1,hz',e.2]
   ·rw[List.getElem?_eq_none (by omega),List.getElem?_eq_none (by simp;omega)]
  ·cases h
theorem yajv:Tryz.prog.cellsOf 59=11:=by kernel_rfl
theorem yaur:Tryz.prog.cellsOf 57=8:=by kernel_rfl
theorem yape:Tryz.prog.cellsOf 158=3:=by kernel_rfl
theorem yazv:Tryz.prog.cellsOf 9=1:=by kernel_rfl
section
variable {H:Type} {enc:TypeId×Value->H} {W:World} {base:Nat} {sp:Nat->Bool} {held:Bool} {fuel:Nat} {v:Value} {y:DataW H×List MemPlace}
end
section
variable {H:Type} {enc:TypeId×Value->H} {W:World} {sp:Nat->Bool} {held:Bool} {r:Reach} {b0:Nat} {v:Value} {d:DataW H} {p:List MemPlace}
end
section
variable {H:Type} {enc:TypeId×Value->H} {w:World} {base:Nat} {sp:Nat->Bool} {held:Bool} {fuel:Nat} {cs:List Value} {p:List MemPlace}
theorem yati(h:DataW.trod enc Tryz.prog w base sp held fuel 163 cs=some (.agg [.lit (.int .i64 1),.lit (.int .i64 24),.lit (.int .i64 32)],p)):cs=[.I 1,.I 24,.I 32] :=
 zmd (zs:=[1,24,32]) Tryz.underlying163 Tryz.underlying3 zzk (show Tryz.prog.cellsOf 163=3 by kernel_rfl) h
theorem yast(h:DataW.trod enc Tryz.prog w base sp held fuel 59 cs=some (.agg [.lit (.int .i64 2),.lit (.int .i64 0),.lit (.int .i64 1),.agg [.lit (.int .i64 0),.lit (.int .i64 0),.lit (.int .i64 0),.lit (.int .i64 0),.lit (.int .i64 0),.lit (.int .i64 0),.lit (.int .i64 0),.lit (.int .i64 0)]],p)) :
  cs=[.I 2,.I 0,.I 1,.I 0,.I 0,.I 0,.I 0,.I 0,.I 0,.I 0,.I 0]:=by
 obtain⟨y0,y1,y2,y3,n,hx,hl,t0,t1,t2,t3⟩:=trod_struct4 Tryz.underlying59 h;obtain⟨z0,e0,hy0,_⟩:=DataW.trod_int Tryz.underlying3 t0;obtain⟨z1,e1,hy1,_⟩:=DataW.trod_int Tryz.underlying3 t1;obtain⟨z2,e2,hy2,_⟩:=DataW.trod_int Tryz.underlying3 t2;obtain⟨y3a,y3b⟩:=y3;subst hy0 hy1 hy2;simp only[Prod.mk.injEq,DataW.agg.injEq,List.cons.injEq,DataW.lit.injEq,Lit.int.injEq,true_and,and_true]at hx;obtain⟨⟨g0,g1,g2,g3⟩,_⟩:=hx;subst g3;have A:=zmd (zs:=[0,0,0,0,0,0,0,0]) Tryz.underlying57 Tryz.underlying3 zzk yaur t3;rw[yajv]at hl;simp only[zzk,yaur]at e0 e1 e2 A
 match cs,hl with
 | [c0,c1,c2,c3,c4,c5,c6,c7,c8,c9,c10],_ =>
  simp at e0 e1 e2 A;rw[e0,e1,e2,<- g0,<- g1,<- g2,A.1,A.2.1,A.2.2.1,A.2.2.2.1,A.2.2.2.2.1,A.2.2.2.2.2.1,A.2.2.2.2.2.2.1,A.2.2.2.2.2.2.2]
theorem yaub(h:DataW.trod enc Tryz.prog w base sp held fuel 158 cs=some (.agg [.lit (.int .i64 0),.lit (.string []),.lit (.int .i64 (-1))],p)):cs=[.I 0,.string ⟨#[]⟩,.I (-1)]:=by
 obtain⟨y0,y1,y2,n,hx,hl,t0,t1,t2⟩:=Deep.trod_struct3 Tryz.underlying158 h;obtain⟨z0,e0,hy0,_⟩:=DataW.trod_int Tryz.underlying3 t0;obtain⟨s,e1,hy1,_⟩:=DataW.trod_string Tryz.underlying9 t1;obtain⟨z2,e2,hy2,_⟩:=DataW.trod_int Tryz.underlying3 t2;subst hy0 hy1 hy2;simp only[Prod.mk.injEq,DataW.agg.injEq,List.cons.injEq,DataW.lit.injEq,Lit.int.injEq,Lit.string.injEq,true_and,and_true]at hx;obtain⟨⟨g0,g1,g2⟩,_⟩:=hx;rw[yape]at hl;simp only[zzk,yazv]at e0 e1 e2
 match cs,hl with
 | [c0,c1,c2],_ =>
  simp at e0 e1 e2
  have hs:s=⟨#[]⟩:=by
   obtain⟨⟨l⟩⟩:=s;have g1':([]:List UInt8)=l:=g1;rw[<- g1']
  rw[e0,e1,e2,<- g0,<- g2,hs]
end
end Go.Proofs.YtdiaiejmoocpmaaGreatDoor

namespace Go.Proofs.YtdiaiejmoocpmaaGreatDoor
open Go.ChangeShapes Go.WideShapes Go.ChangeAt Go.RowKit Go.Joins
theorem yaxh:Tryz.prog.cellsOf 153=2:=by kernel_rfl
theorem yatl {H:Type} {enc:TypeId×Value->H} {w:World} {base:Nat} {sp:Nat->Bool} {held:Bool} {fuel:Nat} {cs:List Value} {p:List MemPlace}
  (h:DataW.trod enc Tryz.prog w base sp held fuel 153 cs=some (.agg [.lit (.int .i64 (-1)),.lit (.int .i64 0)],p)):cs=[.I (-1),.I 0]:=by
 obtain⟨y0,y1,n,hx,hl,t0,t1⟩:=trod_struct2 Tryz.underlying153 h;obtain⟨z0,e0,hy0,_⟩:=DataW.trod_int Tryz.underlying3 t0;obtain⟨z1,e1,hy1,_⟩:=DataW.trod_int Tryz.underlying3 t1;rw[yaxh]at hl;subst hy0 hy1;simp only[zzk]at e0 e1
 match cs,hl with
 | [c0,c1],_ =>
  simp at e0 e1 hx;subst e0 e1;rw[hx.1.1,hx.1.2]
end Go.Proofs.YtdiaiejmoocpmaaGreatDoor

namespace Go.Proofs.YtdiaiejmoocpmaaGreatDoor
open Go.ChangeShapes Go.WideShapes Go.ChangeAt Go.RowKit
theorem yavz:Tryz.prog.cellsOf 3=1:=by kernel_rfl
theorem zxn:Tryz.prog.cellsOf 126=2:=by kernel_rfl
theorem yawl:Tryz.prog.cellsOf 127=12:=by kernel_rfl
theorem yaip {H:Type} {enc:TypeId×Value->H} {w:World} {base:Nat} {sp:Nat->Bool} {held:Bool} {fuel:Nat} {cs:List Value} {p:List MemPlace} {a b:Int}
  (h:DataW.trod enc Tryz.prog w base sp held fuel 126 cs=some (.agg [.lit (.int .i64 a),.lit (.int .i64 b)],p)):cs=[.I a,.I b]:=by
 obtain⟨y0,y1,n,hx,hl,t0,t1⟩:=trod_struct2 Tryz.underlying126 h;obtain⟨z0,e0,hy0,_⟩:=DataW.trod_int Tryz.underlying3 t0;obtain⟨z1,e1,hy1,_⟩:=DataW.trod_int Tryz.underlying3 t1;rw[zxn]at hl;subst hy0 hy1;simp only[yavz]at e0 e1
 match cs,hl with
 | [c0,c1],_ =>
  simp at e0 e1 hx;subst e0 e1;rw[hx.1.1,hx.1.2]
theorem yapz{zs:List (Int×Int)}{cs:List Value}(hz:zs.length=6)(hl:cs.length=12)(chunk:∀ i,i<6->∃ z,zs[i]?=some z/\(cs.drop (i*2)).take 2=[.I z.1,.I z.2]):cs=zs.flatMap fun z=>[.I z.1,.I z.2]:=by
 match zs,hz,cs,hl,chunk with
 | [z0,z1,z2,z3,z4,z5],_,[c0,c1,c2,c3,c4,c5,c6,c7,c8,c9,c10,c11],_,chunk =>
  have k0:=chunk 0 (by omega);have k1:=chunk 1 (by omega);have k2:=chunk 2 (by omega);have k3:=chunk 3 (by omega);have k4:=chunk 4 (by omega);have k5:=chunk 5 (by omega);simp at k0 k1 k2 k3 k4 k5;simp[k0,k1,k2,k3,k4,k5]
theorem yatg {H:Type} {enc:TypeId×Value->H} {w:World} {base:Nat} {sp:Nat->Bool} {held:Bool} {fuel:Nat} {cs:List Value} {p:List MemPlace} {zs:List (Int×Int)} (hz:zs.length=6)
  (h:DataW.trod enc Tryz.prog w base sp held fuel 127 cs=some (.agg (zs.map fun z=>.agg [.lit (.int .i64 z.1),.lit (.int .i64 z.2)]),p)):cs=zs.flatMap fun z=>[.I z.1,.I z.2]:=by
 cases fuel with
 | zero=>simp[DataW.trod]at h
 | succ fuel =>
  simp only[DataW.trod,Tryz.underlying127,zxn,yawl]at h
  split at h
  ·rename_i hl;obtain⟨xs,hm,hx⟩:=Option.map_eq_some_iff.1 h
   have hxs:xs.map (·.1)=zs.map fun z=>(DataW.agg [.lit (.int .i64 z.1),.lit (.int .i64 z.2)]:DataW H):=by
    have:=congrArg Prod.fst hx;simpa using this
   refine yapz hz hl (fun i hi=>?_);obtain⟨b,hb,hf⟩:=Lib.mapM_at hm i i (by simp[hi])
   have h2:(xs.map (·.1))[i]?=some b.1:=by simp[hb]
   rw[hxs,List.getElem?_map,List.getElem?_eq_getElem (by omega)]at h2;have h3:=Option.some.inj h2;obtain⟨b1,b2⟩:=b;simp only at h3;subst h3;exact⟨_,List.getElem?_eq_getElem (by omega),yaip hf⟩
  ·cases h
end Go.Proofs.YtdiaiejmoocpmaaGreatDoor
