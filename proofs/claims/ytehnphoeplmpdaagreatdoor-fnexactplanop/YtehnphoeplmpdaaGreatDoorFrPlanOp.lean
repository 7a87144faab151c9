/- At all devices and operations impl.PlanOp answers as its model spec.PlanOp does, and the devices are left as they were; no condition but that the listed variables and tables are as the program lays them (the card ties them). -/
import Derived.Test.YtehnphoeplmpdaaGreatDoorLawPlanOp
import Derived.Test.YtehnphoeplmpdaaGreatDoorZCA
import Derived.Test.YtehnphoeplmpdaaGreatDoorCards
import Derived.Test.YtehnphoeplmpdaaGreatDoorTie
import Derived.ProofKit
import Derived.OpenShut
import Derived.ShutString
import Derived.ChangeOld
import Derived.Deep.DeepHandedRow
import Derived.Lib.LaidTab
set_option maxRecDepth 100000
set_option maxHeartbeats 40000000
namespace Go.Proofs.YtehnphoeplmpdaaGreatDoor.fnExactPlanOp
open Go.ChangeShapes Go.WideShapes Go.ChangeAt Go.RowKit Go.Joins
open Go.ChangeMaps (open_string shut_string)
theorem zdi:Tryz.prog.globalNamed "loop.example/g00410/impl.freeDirent" = some 0:=by kernel_rfl
theorem zho:(Tryz.prog.globals[0]?).map (·.type)=some 185:=by kernel_rfl
theorem zwn {W:World} {g:Nat} {t:TypeId} {cs:Array Value} {fuel:Nat} {p:List MemPlace} (hg:Tryz.prog.globalNamed "loop.example/g00410/impl.freeDirent" = some g) (ht:(Tryz.prog.globals[g]?).map (·.type)=some t) (hvar:W.var? Tryz.prog "loop.example/g00410/impl.freeDirent" = some cs)
  (hd:DataW.trod (fun _=>()) Tryz.prog W 0 (fun _=>true) false fuel t cs.toList=some (Rows.laid_loop_example_g00410_impl_freeDirent,p)):FD W:=by
 obtain rfl:=Option.some.inj (zdi.symm.trans hg);obtain rfl:=Option.some.inj (zho.symm.trans ht);have e:=yamu hd;simp only[World.var?,zdi,Option.bind_some] at hvar
 split at hvar
 ·rename_i cs' t fr hh;obtain rfl:=Option.some.inj hvar;refine ⟨t,fr,?_⟩;rw[hh]
  cases cs' with
  | mk l=>simp only at e;rw[e]
 ·cases hvar
theorem zer:Tryz.prog.globalNamed "loop.example/g00410/impl.emptyDir" = some 1:=by kernel_rfl
theorem zlp:(Tryz.prog.globals[1]?).map (·.type)=some 133:=by kernel_rfl
theorem yacp {W:World} {g:Nat} {t:TypeId} {cs:Array Value} {fuel:Nat} {p:List MemPlace} (hg:Tryz.prog.globalNamed "loop.example/g00410/impl.emptyDir" = some g) (ht:(Tryz.prog.globals[g]?).map (·.type)=some t) (hvar:W.var? Tryz.prog "loop.example/g00410/impl.emptyDir" = some cs)
  (hd:DataW.trod (fun _=>()) Tryz.prog W 0 (fun _=>true) false fuel t cs.toList=some (Rows.laid_loop_example_g00410_impl_emptyDir,p)):ED W:=by
 obtain rfl:=Option.some.inj (zer.symm.trans hg);obtain rfl:=Option.some.inj (zlp.symm.trans ht);have e:=yalz hd;simp only[World.var?,zer,Option.bind_some] at hvar
 split at hvar
 ·rename_i cs' t fr hh;obtain rfl:=Option.some.inj hvar;refine ⟨t,fr,?_⟩;rw[hh]
  cases cs' with
  | mk l=>simp only at e;rw[e]
 ·cases hvar
theorem zdq:Tryz.prog.globalNamed "loop.example/g00410/impl.tierSizes" = some 4:=by kernel_rfl
theorem zji:(Tryz.prog.globals[4]?).map (·.type)=some 290:=by kernel_rfl
theorem zze {W:World} {g:Nat} {t:TypeId} {cs:Array Value} {fuel:Nat} {p:List MemPlace} (hg:Tryz.prog.globalNamed "loop.example/g00410/impl.tierSizes" = some g) (ht:(Tryz.prog.globals[g]?).map (·.type)=some t) (hvar:W.var? Tryz.prog "loop.example/g00410/impl.tierSizes" = some cs)
  (hd:DataW.trod (fun _=>()) Tryz.prog W 0 (fun _=>true) false fuel t cs.toList=some (Rows.laid_loop_example_g00410_impl_tierSizes,p)):TS W:=by
 obtain rfl:=Option.some.inj (zdq.symm.trans hg);obtain rfl:=Option.some.inj (zji.symm.trans ht);have e:=yakl hd;simp only[World.var?,zdq,Option.bind_some] at hvar
 split at hvar
 ·rename_i cs' t fr hh;obtain rfl:=Option.some.inj hvar;refine ⟨t,fr,?_⟩;rw[hh]
  cases cs' with
  | mk l=>simp only at e;rw[e]
 ·cases hvar
theorem zfz:Tryz.prog.globalNamed "loop.example/g00410/impl.noWrite" = some 2:=by kernel_rfl
theorem znp:(Tryz.prog.globals[2]?).map (·.type)=some 193:=by kernel_rfl
theorem yafb {W:World} {g:Nat} {t:TypeId} {cs:Array Value} {fuel:Nat} {p:List MemPlace} (hg:Tryz.prog.globalNamed "loop.example/g00410/impl.noWrite" = some g) (ht:(Tryz.prog.globals[g]?).map (·.type)=some t) (hvar:W.var? Tryz.prog "loop.example/g00410/impl.noWrite" = some cs)
  (hd:DataW.trod (fun _=>()) Tryz.prog W 0 (fun _=>true) false fuel t cs.toList=some (Rows.laid_loop_example_g00410_impl_noWrite,p)):NW W:=by
 obtain rfl:=Option.some.inj (zfz.symm.trans hg);obtain rfl:=Option.some.inj (znp.symm.trans ht);have e:=yakv hd;simp only[World.var?,zfz,Option.bind_some] at hvar
 split at hvar
 ·rename_i cs' t fr hh;obtain rfl:=Option.some.inj hvar;refine ⟨t,fr,?_⟩;rw[hh]
  cases cs' with
  | mk l=>simp only at e;rw[e]
 ·cases hvar
theorem nw {W:World} (h:laidMetH Tryz.prog Rows.fnExactPlanOpRow.laid W):FD W∧ED W∧TS W∧NW W:=by
 obtain ⟨ps,⟨g0,t0,c0,f0,p0,q0,hg0,ht0,hv0,hd0,⟨g1,t1,c1,f1,p1,q1,hg1,ht1,hv1,hd1,⟨g2,t2,c2,f2,p2,q2,hg2,ht2,hv2,hd2,⟨g3,t3,c3,f3,p3,q3,hg3,ht3,hv3,hd3,⟨g4,t4,c4,f4,p4,q4,hg4,ht4,hv4,hd4,⟨g5,t5,c5,f5,p5,q5,hg5,ht5,hv5,hd5,_,_⟩,_⟩,_⟩,_⟩,_⟩,_⟩,_⟩:=h;exact ⟨zwn hg4 ht4 hv4 hd4,yacp hg3 ht3 hv3 hd3,zze hg2 ht2 hv2 hd2,yafb hg1 ht1 hv1 hd1⟩
theorem yabw {P:Program} {W:World} {n:String} {g:Nat} {cs:Array Value} (hg:P.globalNamed n=some g) (h:W.var? P n=some cs):g < W.heap.size:=by
 simp only[World.var?,hg,Option.bind_some] at h
 split at h
 ·rename_i hh;exact (Array.getElem?_eq_some_iff.1 hh).1
 ·cases h
theorem zel {H:Type} {enc:TypeId×Value→H} {P:Program} {w:World} {spare:Nat→Bool} {n:String} {ns:List String} {gs:List (DataW H)} {ps:List MemPlace} (h:DataW.TrodVars enc P w spare (n :: ns) gs ps) :
  ∃ g t cs fuel d p q ds,gs=d :: ds∧P.globalNamed n=some g∧(P.globals[g]?).map (·.type)=some t∧w.var? P n=some cs∧DataW.trod enc P w 0 spare true fuel t cs.toList=some (d,p)∧DataW.TrodVars enc P w spare ns ds q:=by
 cases gs with
 | nil=>simp[DataW.TrodVars] at h
 | cons d ds =>
  obtain ⟨g,t,cs,fuel,p,q,h1,h2,h3,h4,hs,e⟩:=h;exact ⟨g,t,cs,fuel,d,p,q,ds,rfl,h1,h2,h3,h4,hs⟩
theorem yamc (H:Type) (enc:TypeId×Value→H) (W:World) (base:Nat) (args:Array Value) (ds gs:List (DataW H)) (before:List MemPlace)
  (hval:∀ (j:Nat) t v,Tryz.f3.params[j]?=some t→args[j]?=some v→Value.okWide Tryz.prog W .any base t v)
  (hW:DataW.Whole enc Tryz.prog Tryz.f3.params.toList Rows.fnExactPlanOpSpec.vars false W args.toList ds gs before) (hL:laidMetH Tryz.prog Rows.fnExactPlanOpRow.laid W) :
  Calls Tryz.prog 3 args W fun e W'=>∃ v,e=.returned v∧Rows.fnExactPlanOpSpec.post enc Tryz.prog Tryz.f3 false true false false W args v W':=by
 obtain ⟨hFD,hED,hTS,hNW⟩:=nw hL;have hW':=hW;obtain ⟨p,q,hA0,hV,rfl,hfz,hnd⟩:=hW;have hA:DataW.TrodAll enc Tryz.prog W 0 (fun _=>true) true Tryz.f3.params.toList args.toList ds p:=hA0;rw[Tryz.params3] at hA hval;obtain ⟨v0,vs0,d0,ds0,p0,q0,hargs,rfl,rfl,h0,r0⟩:=trodAll_cons hA;obtain ⟨v1,vs1,d1,ds1,p1,q1,rfl,rfl,rfl,h1,r1⟩:=trodAll_cons r0;obtain ⟨rfl,rfl,rfl⟩:=trodAll_nil r1
 obtain rfl:args=#[v0,v1]:=by cases args;simp_all
 have k0:=h0
 have lt0:∀ x∈p0,x.block < W.heap.size:=by obtain ⟨m,hm⟩:=k0;exact DataW.trod_lt m _ _ _ hm
 obtain ⟨ws0,ps0,es0,qs0,hD0,hwl0,hpl0,hel0,hql0⟩:=yalu (hval 0 30 v0 rfl rfl) h0;have k1:=h1
 have lt1:∀ x∈p1,x.block < W.heap.size:=by obtain ⟨m,hm⟩:=k1;exact DataW.trod_lt m _ _ _ hm
 obtain ⟨kk1,s1,t1,g1,y1,rfl,hs1,ht1⟩:=yaoy (hval 1 32 v1 rfl rfl) h1;clear hA0
 refine (yaef v0 ws0 ps0 es0 qs0 kk1 s1 t1 g1 y1 W hD0 hwl0 hpl0 hel0 hql0 hs1 ht1 hTS hED hFD hNW).mono fun e W' ⟨he,bel⟩=>?_
 subst he;obtain ⟨g0,t0,cs0,fu0,dd0,pp0,qq0,ds0v,rfl,hg0,hty0,hvar0,hd0,hV0⟩:=zel hV;obtain rfl:=Option.some.inj (zdi.symm.trans hg0);obtain rfl:=Option.some.inj (zho.symm.trans hty0)
 have kd0:DataW.Trod enc Tryz.prog W 0 (fun _=>true) true 185 (.agg cs0) dd0 pp0:=⟨fu0,hd0⟩
 have ltd0:∀ x∈pp0,x.block < W.heap.size:=DataW.trod_lt fu0 _ _ _ hd0;obtain ⟨fe0,he0⟩:=Below.trod zli (by kernel_rfl) (of_decide_eq_true (by kernel_rfl)) kd0 bel ltd0;obtain ⟨g1,t1,cs1,fu1,dd1,pp1,qq1,ds1v,rfl,hg1,hty1,hvar1,hd1,hV1⟩:=zel hV0;obtain rfl:=Option.some.inj (zer.symm.trans hg1);obtain rfl:=Option.some.inj (zlp.symm.trans hty1)
 have kd1:DataW.Trod enc Tryz.prog W 0 (fun _=>true) true 133 (.agg cs1) dd1 pp1:=⟨fu1,hd1⟩
 have ltd1:∀ x∈pp1,x.block < W.heap.size:=DataW.trod_lt fu1 _ _ _ hd1;obtain ⟨fe1,he1⟩:=Below.trod zli (by kernel_rfl) (of_decide_eq_true (by kernel_rfl)) kd1 bel ltd1;obtain ⟨g2,t2,cs2,fu2,dd2,pp2,qq2,ds2v,rfl,hg2,hty2,hvar2,hd2,hV2⟩:=zel hV1;obtain rfl:=Option.some.inj (zdq.symm.trans hg2);obtain rfl:=Option.some.inj (zji.symm.trans hty2)
 have kd2:DataW.Trod enc Tryz.prog W 0 (fun _=>true) true 290 (.agg cs2) dd2 pp2:=⟨fu2,hd2⟩
 have ltd2:∀ x∈pp2,x.block < W.heap.size:=DataW.trod_lt fu2 _ _ _ hd2;obtain ⟨fe2,he2⟩:=Below.trod zli (by kernel_rfl) (of_decide_eq_true (by kernel_rfl)) kd2 bel ltd2;obtain ⟨g3,t3,cs3,fu3,dd3,pp3,qq3,ds3v,rfl,hg3,hty3,hvar3,hd3,hV3⟩:=zel hV2;obtain rfl:=Option.some.inj (zfz.symm.trans hg3);obtain rfl:=Option.some.inj (znp.symm.trans hty3)
 have kd3:DataW.Trod enc Tryz.prog W 0 (fun _=>true) true 193 (.agg cs3) dd3 pp3:=⟨fu3,hd3⟩
 have ltd3:∀ x∈pp3,x.block < W.heap.size:=DataW.trod_lt fu3 _ _ _ hd3;obtain ⟨fe3,he3⟩:=Below.trod zli (by kernel_rfl) (of_decide_eq_true (by kernel_rfl)) kd3 bel ltd3;obtain ⟨rfl,rfl⟩:=trodVars_none hV3
 exact ⟨_,rfl,_,_,_,[],_,_,hW',trodAll_mk1 (shut_bool Tryz.underlying4 _),(trodAll_cons_mk (Below.trod zli (by kernel_rfl) (of_decide_eq_true (by kernel_rfl)) k0 bel lt0) (trodAll_cons_mk (Below.trod zli (by kernel_rfl) (of_decide_eq_true (by kernel_rfl)) k1 bel lt1) trodAll_mk0)),
  ⟨_,_,_,fe0,_,_,zdi,zho,var?_below bel zdi (yabw zdi hvar0) hvar0,he0,⟨_,_,_,fe1,_,_,zer,zlp,var?_below bel zer (yabw zer hvar1) hvar1,he1,⟨_,_,_,fe2,_,_,zdq,zji,var?_below bel zdq (yabw zdq hvar2) hvar2,he2,⟨_,_,_,fe3,_,_,zfz,znp,var?_below bel zfz (yabw zfz hvar3) hvar3,he3,rfl,rfl⟩,rfl⟩,rfl⟩,rfl⟩,bel.frame _,fun h=>by cases h⟩
noncomputable def zoc (os:Os):World :=
 { World.holding Tryz.prog os ⟨#[],#[],[]⟩ with heap:=(((((((World.holding Tryz.prog os ⟨#[],#[],[]⟩).heap.modify 7 fun | .cells _ t frozen=>.cells #[.int .u8 128,.int .u8 191,.int .u8 160,.int .u8 191,.int .u8 128,.int .u8 159,.int .u8 144,.int .u8 191,.int .u8 128,.int .u8 143,.int .u8 0,.int .u8 0,.int .u8 0,.int .u8 0,.int .u8 0,.int .u8 0,.int .u8 0,.int .u8 0,.int .u8 0,.int .u8 0,.int .u8 0,.int .u8 0,.int .u8 0,.int .u8 0,.int .u8 0,.int .u8 0,.int .u8 0,.int .u8 0,.int .u8 0,.int .u8 0,.int .u8 0,.int .u8 0] t frozen | o=>o).modify 2 fun | .cells _ t frozen=>.cells #[.int .i64 (-1),.int .i64 0] t frozen | o=>o).modify 4 fun | .cells _ t frozen=>.cells #[.int .i64 1,.int .i64 24,.int .i64 32] t frozen | o=>o).modify 1 fun | .cells _ t frozen=>.cells #[.int .i64 2,.int .i64 0,.int .i64 1,.int .i64 0,.int .i64 0,.int .i64 0,.int .i64 0,.int .i64 0,.int .i64 0,.int .i64 0,.int .i64 0] t frozen | o=>o).modify 0 fun | .cells _ t frozen=>.cells #[.int .i64 0,.string ⟨#[]⟩,.int .i64 (-1)] t frozen | o=>o).modify 6 fun | .cells _ t frozen=>.cells (Go.Pinned.utf8FirstZ.map fun (n:Nat)=>Value.int .u8 (n:Int)).toArray t frozen | o=>o) }
theorem yakc (os:Os):laidMet Tryz.prog Rows.fnExactPlanOpRow.laid ((zoc os).forCall (fun _ _=>0) ⟨#[],#[.agg #[.slice none 0 0,.slice none 0 0,.slice none 0 0,.slice none 0 0],.agg #[.int .i64 0,.string ⟨#[]⟩,.string ⟨#[]⟩,.int .i64 0,.int .i64 0]],[]⟩).memory :=
 laidMet_of_run' 8 (by kernel_rfl) (by kernel_rfl)
theorem yatt (os:Os) {H:Type} (enc:TypeId×Value→H):∃ x,DataW.whole enc Tryz.prog ((zoc os).forCall (fun _ _=>0) ⟨#[],#[.agg #[.slice none 0 0,.slice none 0 0,.slice none 0 0,.slice none 0 0],.agg #[.int .i64 0,.string ⟨#[]⟩,.string ⟨#[]⟩,.int .i64 0,.int .i64 0]],[]⟩).memory Tryz.f3.params.toList Rows.fnExactPlanOpSpec.vars false (#[.agg #[.slice none 0 0,.slice none 0 0,.slice none 0 0,.slice none 0 0],.agg #[.int .i64 0,.string ⟨#[]⟩,.string ⟨#[]⟩,.int .i64 0,.int .i64 0]]:Array Value).toList 8=some x :=
 Option.isSome_iff_exists.1 (by kernel_rfl)
theorem yarr (os:Os) (started:os.Started) (H:Type) (enc:TypeId×Value→H) (F:Stop.Interp) :
  ReturnsInHanded {} Tryz.checked os 3 .any ((OpenSpec.ofChange Rows.fnExactPlanOpSpec).preRow enc Tryz.prog Tryz.f3 Rows.fnExactPlanOpRow.domain false Rows.fnExactPlanOpRow.laid) (((OpenSpec.ofChange Rows.fnExactPlanOpSpec).at F).post enc Tryz.prog Tryz.f3 false true false false):=by
 obtain ⟨x,hx⟩:=yatt os enc;refine returnsInHanded_of_row (C:=Tryz.checked) (s:=OpenSpec.ofChange Rows.fnExactPlanOpSpec) own started (by kernel_rfl) Tryz.func3
  (witness_row_at (enc:=enc) (C:=Tryz.checked) false (zoc os) #[.agg #[.slice none 0 0,.slice none 0 0,.slice none 0 0,.slice none 0 0],.agg #[.int .i64 0,.string ⟨#[]⟩,.string ⟨#[]⟩,.int .i64 0,.int .i64 0]] rfl (by kernel_rfl) (by kernel_rfl) (by kernel_rfl)
   (OpenSpec.preRow_of_cond 8 hx rfl (fun k hk=>by cases hk) (by kernel_rfl) (yakc os))) ?_
 intro W base args ds gs before hval hW _ _ _ hL _ _;exact yamc H enc W base args ds gs before hval hW hL
theorem yari:joinedFacts Tryz.pinned.checked.prog 3 Tryz.f3 (OpenSpec.ofChange Rows.fnExactPlanOpSpec).bare Rows.fnExactPlanOpRow=true:=by
 unfold joinedFacts
 repeat' (with_reducible refine (Bool.and_eq_true _ _).mpr ⟨?_,?_⟩)
 all_goals (as_aux_lemma=>kernel_rfl)
theorem said:Rows.FnExactPlanOpSaid :=
 OpenClaim.holds_of_cond 3 Tryz.f3 rfl rfl rfl rfl rfl rfl rfl ⟨rfl,rfl,rfl,rfl,rfl⟩ rfl rfl rfl rfl rfl (by kernel_rfl) Tryz.func3 yari
  (of_decide_eq_true (by kernel_rfl)) (by unfold Func.isWrapper;first | (rw[if_pos (by decide +kernel)];kernel_rfl) | (rw[if_neg (by decide +kernel)];exact ⟨rfl,rfl⟩))
  (fun os started H enc _ F=>by rw[OpenClaim.pre_eq_preRow];exact yarr os started H enc F)
theorem plain (f:FuncId) (fn:Func) (hf:Tryz.pinned.checked.prog.funcNamed "loop.example/g00410/laws.FnExactPlanOp" = some f) (hfn:Tryz.pinned.checked.prog.funcs[f]?=some fn) :
  false=Tryz.pinned.checked.prog.looks []∧∀ (j:Nat) t,fn.params[j]?=some t→Tryz.pinned.checked.prog.wantsStandIn t=false:=by
 obtain rfl:f=3:=Option.some.inj ((show Tryz.prog.funcNamed "loop.example/g00410/laws.FnExactPlanOp" = some 3 by kernel_rfl).symm.trans hf) |>.symm
 obtain rfl:fn=Tryz.f3:=(Option.some.inj (Tryz.func3.symm.trans hfn)).symm;refine ⟨by kernel_rfl,fun j t ht=>?_⟩;rw[Tryz.params3] at ht;have hm:=Array.mem_of_getElem? ht;simp at hm
 rcases hm with rfl | rfl
 ·exact (show Tryz.prog.wantsStandIn 30=false by kernel_rfl)
 ·exact (show Tryz.prog.wantsStandIn 32=false by kernel_rfl)
end Go.Proofs.YtehnphoeplmpdaaGreatDoor.fnExactPlanOp
namespace Go.Proofs.YtehnphoeplmpdaaGreatDoor
theorem planOp_card:Rows.FnExactPlanOpCardSaid :=
 Claim7.holds_tied_plain_at .later [] _ _ _ _ fnExactPlanOp.said (fun _ h=>by cases h) (by kernel_rfl) (fun _ h=>by cases h) fnExactPlanOp_row_tie rfl ⟨rfl,rfl⟩ (by kernel_rfl) rfl fnExactPlanOp.plain (by kernel_rfl)
#print axioms planOp_card
end Go.Proofs.YtehnphoeplmpdaaGreatDoor
