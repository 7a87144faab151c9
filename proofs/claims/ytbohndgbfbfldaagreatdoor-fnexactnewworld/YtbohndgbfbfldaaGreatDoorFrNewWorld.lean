/- impl.NewWorld answers as its model spec.NewWorld does, every field, and what it answers is of its own making; no condition but that the listed variables and tables are as the program lays them (the card ties them). -/
import Derived.Test.YtbohndgbfbfldaaGreatDoorLawNewWorld
import Derived.Test.YtbohndgbfbfldaaGreatDoorZCA
import Derived.Test.YtbohndgbfbfldaaGreatDoorCards
import Derived.Test.YtbohndgbfbfldaaGreatDoorTie
import Derived.ProofKit
import Derived.OpenShut
import Derived.ShutString
import Derived.ChangeOld
import Derived.Deep.DeepHandedRow
import Derived.Lib.LaidTab
set_option maxRecDepth 100000
set_option maxHeartbeats 40000000
namespace Go.Proofs.YtbohndgbfbfldaaGreatDoor.fnExactNewWorld
open Go.ChangeShapes Go.WideShapes Go.ChangeAt Go.RowKit Go.Joins
open Go.ChangeMaps (open_string shut_string)
theorem zcn:Tryz.prog.globalNamed "loop.example/g00410/impl.emptyDir" = some 0:=by kernel_rfl
theorem zgc:(Tryz.prog.globals[0]?).map (·.type)=some 149:=by kernel_rfl
theorem zsi {W:World} {g:Nat} {t:TypeId} {cs:Array Value} {fuel:Nat} {p:List MemPlace} (hg:Tryz.prog.globalNamed "loop.example/g00410/impl.emptyDir" = some g) (ht:(Tryz.prog.globals[g]?).map (·.type)=some t) (hvar:W.var? Tryz.prog "loop.example/g00410/impl.emptyDir" = some cs)
  (hd:DataW.trod (fun _=>()) Tryz.prog W 0 (fun _=>true) false fuel t cs.toList=some (Rows.laid_loop_example_g00410_impl_emptyDir,p)):ED W:=by
 obtain rfl:=Option.some.inj (zcn.symm.trans hg);obtain rfl:=Option.some.inj (zgc.symm.trans ht);have e:cs.toList=[.int .i64 2,.int .i64 0,.int .i64 1,.int .i64 0,.int .i64 0,.int .i64 0,.int .i64 0,.int .i64 0,.int .i64 0,.int .i64 0,.int .i64 0]:=zyt hd;simp only[World.var?,zcn,Option.bind_some] at hvar
 split at hvar
 ·rename_i cs' t fr hh;obtain rfl:=Option.some.inj hvar;refine ⟨t,fr,?_⟩;rw[hh]
  cases cs' with
  | mk l=>simp only at e;rw[e]
 ·cases hvar
theorem zbx:Tryz.prog.globalNamed "loop.example/g00410/impl.tierSizes" = some 4:=by kernel_rfl
theorem zex:(Tryz.prog.globals[4]?).map (·.type)=some 260:=by kernel_rfl
theorem zpk {W:World} {g:Nat} {t:TypeId} {cs:Array Value} {fuel:Nat} {p:List MemPlace} (hg:Tryz.prog.globalNamed "loop.example/g00410/impl.tierSizes" = some g) (ht:(Tryz.prog.globals[g]?).map (·.type)=some t) (hvar:W.var? Tryz.prog "loop.example/g00410/impl.tierSizes" = some cs)
  (hd:DataW.trod (fun _=>()) Tryz.prog W 0 (fun _=>true) false fuel t cs.toList=some (Rows.laid_loop_example_g00410_impl_tierSizes,p)):TS W:=by
 obtain rfl:=Option.some.inj (zbx.symm.trans hg);obtain rfl:=Option.some.inj (zex.symm.trans ht);have e:cs.toList=[.int .i64 1,.int .i64 24,.int .i64 32]:=zzk hd;simp only[World.var?,zbx,Option.bind_some] at hvar
 split at hvar
 ·rename_i cs' t fr hh;obtain rfl:=Option.some.inj hvar;refine ⟨t,fr,?_⟩;rw[hh]
  cases cs' with
  | mk l=>simp only at e;rw[e]
 ·cases hvar
theorem zbr:Tryz.prog.globalNamed "loop.example/g00410/impl.freeDirent" = some 2:=by kernel_rfl
theorem zec:(Tryz.prog.globals[2]?).map (·.type)=some 143:=by kernel_rfl
theorem zng {W:World} {g:Nat} {t:TypeId} {cs:Array Value} {fuel:Nat} {p:List MemPlace} (hg:Tryz.prog.globalNamed "loop.example/g00410/impl.freeDirent" = some g) (ht:(Tryz.prog.globals[g]?).map (·.type)=some t) (hvar:W.var? Tryz.prog "loop.example/g00410/impl.freeDirent" = some cs)
  (hd:DataW.trod (fun _=>()) Tryz.prog W 0 (fun _=>true) false fuel t cs.toList=some (Rows.laid_loop_example_g00410_impl_freeDirent,p)):FD W:=by
 obtain rfl:=Option.some.inj (zbr.symm.trans hg);obtain rfl:=Option.some.inj (zec.symm.trans ht);have e:cs.toList=[.int .i64 0,.string ⟨#[]⟩,.int .i64 (-1)]:=zxu hd;simp only[World.var?,zbr,Option.bind_some] at hvar
 split at hvar
 ·rename_i cs' t fr hh;obtain rfl:=Option.some.inj hvar;refine ⟨t,fr,?_⟩;rw[hh]
  cases cs' with
  | mk l=>simp only at e;rw[e]
 ·cases hvar
theorem zdh:Tryz.prog.globalNamed "loop.example/g00410/impl.noWrite" = some 3:=by kernel_rfl
theorem zim:(Tryz.prog.globals[3]?).map (·.type)=some 208:=by kernel_rfl
theorem ztp {W:World} {g:Nat} {t:TypeId} {cs:Array Value} {fuel:Nat} {p:List MemPlace} (hg:Tryz.prog.globalNamed "loop.example/g00410/impl.noWrite" = some g) (ht:(Tryz.prog.globals[g]?).map (·.type)=some t) (hvar:W.var? Tryz.prog "loop.example/g00410/impl.noWrite" = some cs)
  (hd:DataW.trod (fun _=>()) Tryz.prog W 0 (fun _=>true) false fuel t cs.toList=some (Rows.laid_loop_example_g00410_impl_noWrite,p)):NW W:=by
 obtain rfl:=Option.some.inj (zdh.symm.trans hg);obtain rfl:=Option.some.inj (zim.symm.trans ht);have e:cs.toList=[.int .i64 (-1),.int .i64 0]:=zxa hd;simp only[World.var?,zdh,Option.bind_some] at hvar
 split at hvar
 ·rename_i cs' t fr hh;obtain rfl:=Option.some.inj hvar;refine ⟨t,fr,?_⟩;rw[hh]
  cases cs' with
  | mk l=>simp only at e;rw[e]
 ·cases hvar
theorem nw {W:World} (h:laidMetH Tryz.prog Rows.fnExactNewWorldRow.laid W):ED W∧TS W∧FD W∧NW W:=by
 obtain ⟨ps,⟨g0,t0,c0,f0,p0,q0,hg0,ht0,hv0,hd0,⟨g1,t1,c1,f1,p1,q1,hg1,ht1,hv1,hd1,⟨g2,t2,c2,f2,p2,q2,hg2,ht2,hv2,hd2,⟨g3,t3,c3,f3,p3,q3,hg3,ht3,hv3,hd3,_,_⟩,_⟩,_⟩,_⟩,_⟩:=h;exact ⟨zsi hg2 ht2 hv2 hd2,zpk hg1 ht1 hv1 hd1,zng hg3 ht3 hv3 hd3,ztp hg0 ht0 hv0 hd0⟩
theorem zqy {P:Program} {W:World} {n:String} {g:Nat} {cs:Array Value} (hg:P.globalNamed n=some g) (h:W.var? P n=some cs):g < W.heap.size:=by
 simp only[World.var?,hg,Option.bind_some] at h
 split at h
 ·rename_i hh;exact (Array.getElem?_eq_some_iff.1 hh).1
 ·cases h
theorem zcl {H:Type} {enc:TypeId×Value→H} {P:Program} {w:World} {spare:Nat→Bool} {n:String} {ns:List String} {gs:List (DataW H)} {ps:List MemPlace} (h:DataW.TrodVars enc P w spare (n :: ns) gs ps) :
  ∃ g t cs fuel d p q ds,gs=d :: ds∧P.globalNamed n=some g∧(P.globals[g]?).map (·.type)=some t∧w.var? P n=some cs∧DataW.trod enc P w 0 spare true fuel t cs.toList=some (d,p)∧DataW.TrodVars enc P w spare ns ds q:=by
 cases gs with
 | nil=>simp[DataW.TrodVars] at h
 | cons d ds =>
  obtain ⟨g,t,cs,fuel,p,q,h1,h2,h3,h4,hs,e⟩:=h;exact ⟨g,t,cs,fuel,d,p,q,ds,rfl,h1,h2,h3,h4,hs⟩
theorem zxc (H:Type) (enc:TypeId×Value→H) (W:World) (base:Nat) (args:Array Value) (ds gs:List (DataW H)) (before:List MemPlace)
  (hval:∀ (j:Nat) t v,Tryz.f3.params[j]?=some t→args[j]?=some v→Value.okWide Tryz.prog W .any base t v)
  (hW:DataW.Whole enc Tryz.prog Tryz.f3.params.toList Rows.fnExactNewWorldSpec.vars false W args.toList ds gs before) (hL:laidMetH Tryz.prog Rows.fnExactNewWorldRow.laid W) :
  Calls Tryz.prog 3 args W fun e W'=>∃ v,e=.returned v∧Rows.fnExactNewWorldSpec.post enc Tryz.prog Tryz.f3 false true false false W args v W':=by
 obtain ⟨hED,hTS,hFD,hNW⟩:=nw hL;have hW':=hW;obtain ⟨p,q,hA0,hV,rfl,hfz,hnd⟩:=hW;have hA:DataW.TrodAll enc Tryz.prog W 0 (fun _=>true) true Tryz.f3.params.toList args.toList ds p:=hA0;rw[Tryz.params3] at hA hval;obtain ⟨hargs,rfl,rfl⟩:=trodAll_nil hA
 obtain rfl:args=#[]:=by cases args;simp_all
 clear hA0
 refine (zoa W hTS hED hFD hNW).mono fun e W' ⟨he,bel⟩=>?_
 subst he;obtain ⟨g0,t0,cs0,fu0,dd0,pp0,qq0,ds0v,rfl,hg0,hty0,hvar0,hd0,hV0⟩:=zcl hV;obtain rfl:=Option.some.inj (zcn.symm.trans hg0);obtain rfl:=Option.some.inj (zgc.symm.trans hty0)
 have kd0:DataW.Trod enc Tryz.prog W 0 (fun _=>true) true 149 (.agg cs0) dd0 pp0:=⟨fu0,hd0⟩
 have ltd0:∀ x∈pp0,x.block < W.heap.size:=DataW.trod_lt fu0 _ _ _ hd0;obtain ⟨fe0,he0⟩:=Below.trod zky (by kernel_rfl) (of_decide_eq_true (by kernel_rfl)) kd0 bel ltd0;obtain ⟨g1,t1,cs1,fu1,dd1,pp1,qq1,ds1v,rfl,hg1,hty1,hvar1,hd1,hV1⟩:=zcl hV0;obtain rfl:=Option.some.inj (zbx.symm.trans hg1);obtain rfl:=Option.some.inj (zex.symm.trans hty1)
 have kd1:DataW.Trod enc Tryz.prog W 0 (fun _=>true) true 260 (.agg cs1) dd1 pp1:=⟨fu1,hd1⟩
 have ltd1:∀ x∈pp1,x.block < W.heap.size:=DataW.trod_lt fu1 _ _ _ hd1;obtain ⟨fe1,he1⟩:=Below.trod zky (by kernel_rfl) (of_decide_eq_true (by kernel_rfl)) kd1 bel ltd1;obtain ⟨g2,t2,cs2,fu2,dd2,pp2,qq2,ds2v,rfl,hg2,hty2,hvar2,hd2,hV2⟩:=zcl hV1;obtain rfl:=Option.some.inj (zbr.symm.trans hg2);obtain rfl:=Option.some.inj (zec.symm.trans hty2)
 have kd2:DataW.Trod enc Tryz.prog W 0 (fun _=>true) true 143 (.agg cs2) dd2 pp2:=⟨fu2,hd2⟩
 have ltd2:∀ x∈pp2,x.block < W.heap.size:=DataW.trod_lt fu2 _ _ _ hd2;obtain ⟨fe2,he2⟩:=Below.trod zky (by kernel_rfl) (of_decide_eq_true (by kernel_rfl)) kd2 bel ltd2;obtain ⟨g3,t3,cs3,fu3,dd3,pp3,qq3,ds3v,rfl,hg3,hty3,hvar3,hd3,hV3⟩:=zcl hV2;obtain rfl:=Option.some.inj (zdh.symm.trans hg3);obtain rfl:=Option.some.inj (zim.symm.trans hty3)
 have kd3:DataW.Trod enc Tryz.prog W 0 (fun _=>true) true 208 (.agg cs3) dd3 pp3:=⟨fu3,hd3⟩
 have ltd3:∀ x∈pp3,x.block < W.heap.size:=DataW.trod_lt fu3 _ _ _ hd3;obtain ⟨fe3,he3⟩:=Below.trod zky (by kernel_rfl) (of_decide_eq_true (by kernel_rfl)) kd3 bel ltd3;obtain ⟨rfl,rfl⟩:=trodVars_none hV3
 exact ⟨_,rfl,_,_,_,[],_,_,hW',trodAll_mk1 (shut_bool Tryz.underlying4 _),trodAll_mk0,
  ⟨_,_,_,fe0,_,_,zcn,zgc,var?_below bel zcn (zqy zcn hvar0) hvar0,he0,⟨_,_,_,fe1,_,_,zbx,zex,var?_below bel zbx (zqy zbx hvar1) hvar1,he1,⟨_,_,_,fe2,_,_,zbr,zec,var?_below bel zbr (zqy zbr hvar2) hvar2,he2,⟨_,_,_,fe3,_,_,zdh,zim,var?_below bel zdh (zqy zdh hvar3) hvar3,he3,rfl,rfl⟩,rfl⟩,rfl⟩,rfl⟩,bel.frame _,fun h=>by cases h⟩
noncomputable def zie (os:Os):World :=
 { World.holding Tryz.prog os ⟨#[],#[],[]⟩ with heap:=(((((World.holding Tryz.prog os ⟨#[],#[],[]⟩).heap.modify 3 fun | .cells _ t frozen=>.cells #[.int .i64 (-1),.int .i64 0] t frozen | o=>o).modify 4 fun | .cells _ t frozen=>.cells #[.int .i64 1,.int .i64 24,.int .i64 32] t frozen | o=>o).modify 0 fun | .cells _ t frozen=>.cells #[.int .i64 2,.int .i64 0,.int .i64 1,.int .i64 0,.int .i64 0,.int .i64 0,.int .i64 0,.int .i64 0,.int .i64 0,.int .i64 0,.int .i64 0] t frozen | o=>o).modify 2 fun | .cells _ t frozen=>.cells #[.int .i64 0,.string ⟨#[]⟩,.int .i64 (-1)] t frozen | o=>o) }
theorem zxl (os:Os):laidMet Tryz.prog Rows.fnExactNewWorldRow.laid ((zie os).forCall (fun _ _=>0) ⟨#[],#[],[]⟩).memory :=
 laidMet_of_run' 8 (by kernel_rfl) (by kernel_rfl)
theorem reads (os:Os) {H:Type} (enc:TypeId×Value→H):∃ x,DataW.whole enc Tryz.prog ((zie os).forCall (fun _ _=>0) ⟨#[],#[],[]⟩).memory Tryz.f3.params.toList Rows.fnExactNewWorldSpec.vars false (#[]:Array Value).toList 8=some x :=
 Option.isSome_iff_exists.1 (by kernel_rfl)
theorem yaef (os:Os) (started:os.Started) (H:Type) (enc:TypeId×Value→H) (F:Stop.Interp) :
  ReturnsInHanded {} Tryz.checked os 3 .any ((OpenSpec.ofChange Rows.fnExactNewWorldSpec).preRow enc Tryz.prog Tryz.f3 Rows.fnExactNewWorldRow.domain false Rows.fnExactNewWorldRow.laid) (((OpenSpec.ofChange Rows.fnExactNewWorldSpec).at F).post enc Tryz.prog Tryz.f3 false true false false):=by
 obtain ⟨x,hx⟩:=reads os enc;refine returnsInHanded_of_row (C:=Tryz.checked) (s:=OpenSpec.ofChange Rows.fnExactNewWorldSpec) own started (by kernel_rfl) Tryz.func3
  (witness_row_at (enc:=enc) (C:=Tryz.checked) false (zie os) #[] rfl (by kernel_rfl) (by kernel_rfl) (by kernel_rfl)
   (OpenSpec.preRow_of_cond 8 hx rfl (fun k hk=>by cases hk) (by kernel_rfl) (zxl os))) ?_
 intro W base args ds gs before hval hW _ _ _ hL _ _;exact zxc H enc W base args ds gs before hval hW hL
theorem yadt:joinedFacts Tryz.pinned.checked.prog 3 Tryz.f3 (OpenSpec.ofChange Rows.fnExactNewWorldSpec).bare Rows.fnExactNewWorldRow=true:=by
 unfold joinedFacts
 repeat' (with_reducible refine (Bool.and_eq_true _ _).mpr ⟨?_,?_⟩)
 all_goals (as_aux_lemma=>kernel_rfl)
theorem said:Rows.FnExactNewWorldSaid :=
 OpenClaim.holds_of_cond 3 Tryz.f3 rfl rfl rfl rfl rfl rfl rfl ⟨rfl,rfl,rfl,rfl,rfl⟩ rfl rfl rfl rfl rfl (by kernel_rfl) Tryz.func3 yadt
  (of_decide_eq_true (by kernel_rfl)) (by unfold Func.isWrapper;first | (rw[if_pos (by decide +kernel)];kernel_rfl) | (rw[if_neg (by decide +kernel)];exact ⟨rfl,rfl⟩))
  (fun os started H enc _ F=>by rw[OpenClaim.pre_eq_preRow];exact yaef os started H enc F)
theorem plain (f:FuncId) (fn:Func) (hf:Tryz.pinned.checked.prog.funcNamed "loop.example/g00410/laws.FnExactNewWorld" = some f) (hfn:Tryz.pinned.checked.prog.funcs[f]?=some fn) :
  false=Tryz.pinned.checked.prog.looks []∧∀ (j:Nat) t,fn.params[j]?=some t→Tryz.pinned.checked.prog.wantsStandIn t=false:=by
 obtain rfl:f=3:=Option.some.inj ((show Tryz.prog.funcNamed "loop.example/g00410/laws.FnExactNewWorld" = some 3 by kernel_rfl).symm.trans hf) |>.symm
 obtain rfl:fn=Tryz.f3:=(Option.some.inj (Tryz.func3.symm.trans hfn)).symm;refine ⟨by kernel_rfl,fun j t ht=>?_⟩;rw[Tryz.params3] at ht;have hm:=Array.mem_of_getElem? ht;simp at hm
end Go.Proofs.YtbohndgbfbfldaaGreatDoor.fnExactNewWorld
namespace Go.Proofs.YtbohndgbfbfldaaGreatDoor
theorem newWorld_exact:Rows.FnExactNewWorldCardSaid :=
 Claim7.holds_tied_plain_at .later [] _ _ _ _ fnExactNewWorld.said (fun _ h=>by cases h) (by kernel_rfl) (fun _ h=>by cases h) fnExactNewWorld_row_tie rfl ⟨rfl,rfl⟩ (by kernel_rfl) rfl fnExactNewWorld.plain (by kernel_rfl)
#print axioms newWorld_exact
end Go.Proofs.YtbohndgbfbfldaaGreatDoor
