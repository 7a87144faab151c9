/- At all worlds impl.WorldOK answers as its model spec.WorldOK does, and the world is left as it was; no condition but that the listed variables and tables are as the program lays them (the card ties them). -/
import Derived.Test.YtbohndgbfbfldaaGreatDoorZBX
import Derived.Test.YtbohndgbfbfldaaGreatDoorZBZ
import Derived.Test.YtbohndgbfbfldaaGreatDoorCards
import Derived.Test.YtbohndgbfbfldaaGreatDoorTie
import Derived.ProofKit
import Derived.OpenShut
import Derived.ShutString
import Derived.ChangeOld
import Derived.Deep.DeepHandedRow
import Derived.Lib.LaidTab
set_option maxRecDepth 100000
set_option maxHeartbeats 40000000
namespace Go.Proofs.YtbohndgbfbfldaaGreatDoor.fnExactWorldOK
open Go.ChangeShapes Go.WideShapes Go.ChangeAt Go.RowKit Go.Joins
open Go.ChangeMaps (open_string shut_string)
theorem zbs:Tryz.prog.globalNamed "loop.example/g00410/impl.stepBounds" = some 1:=by kernel_rfl
theorem zdq:(Tryz.prog.globals[1]?).map (·.type)=some 224:=by kernel_rfl
theorem zob {W:World} {g:Nat} {t:TypeId} {cs:Array Value} {fuel:Nat} {p:List MemPlace} (hg:Tryz.prog.globalNamed "loop.example/g00410/impl.stepBounds" = some g) (ht:(Tryz.prog.globals[g]?).map (·.type)=some t) (hvar:W.var? Tryz.prog "loop.example/g00410/impl.stepBounds" = some cs)
  (hd:DataW.trod (fun _=>()) Tryz.prog W 0 (fun _=>true) false fuel t cs.toList=some (Rows.laid_loop_example_g00410_impl_stepBounds,p)):SB W:=by
 obtain rfl:=Option.some.inj (zbs.symm.trans hg);obtain rfl:=Option.some.inj (zdq.symm.trans ht);have e:cs.toList=[.int .i64 0,.int .i64 0,.int .i64 336,.int .i64 1099511627776,.int .i64 336,.int .i64 1,.int .i64 1,.int .i64 1,.int .i64 32,.int .i64 1099511627776,.int .i64 1,.int .i64 1]:=zwl (zs:=[(0,0),(336,1099511627776),(336,1),(1,1),(32,1099511627776),(1,1)]) rfl hd;simp only[World.var?,zbs,Option.bind_some] at hvar
 split at hvar
 ·rename_i cs' t fr hh;obtain rfl:=Option.some.inj hvar;refine ⟨t,fr,?_⟩;rw[hh]
  cases cs' with
  | mk l=>simp only at e;rw[e]
 ·cases hvar
theorem zbt:Tryz.prog.globalNamed "loop.example/g00410/impl.freeDirent" = some 2:=by kernel_rfl
theorem zdk:(Tryz.prog.globals[2]?).map (·.type)=some 143:=by kernel_rfl
theorem zms {W:World} {g:Nat} {t:TypeId} {cs:Array Value} {fuel:Nat} {p:List MemPlace} (hg:Tryz.prog.globalNamed "loop.example/g00410/impl.freeDirent" = some g) (ht:(Tryz.prog.globals[g]?).map (·.type)=some t) (hvar:W.var? Tryz.prog "loop.example/g00410/impl.freeDirent" = some cs)
  (hd:DataW.trod (fun _=>()) Tryz.prog W 0 (fun _=>true) false fuel t cs.toList=some (Rows.laid_loop_example_g00410_impl_freeDirent,p)):FD W:=by
 obtain rfl:=Option.some.inj (zbt.symm.trans hg);obtain rfl:=Option.some.inj (zdk.symm.trans ht);have e:cs.toList=[.int .i64 0,.string ⟨#[]⟩,.int .i64 (-1)]:=zwu hd;simp only[World.var?,zbt,Option.bind_some] at hvar
 split at hvar
 ·rename_i cs' t fr hh;obtain rfl:=Option.some.inj hvar;refine ⟨t,fr,?_⟩;rw[hh]
  cases cs' with
  | mk l=>simp only at e;rw[e]
 ·cases hvar
theorem zcl:Tryz.prog.globalNamed "loop.example/g00410/impl.emptyDir" = some 0:=by kernel_rfl
theorem zft:(Tryz.prog.globals[0]?).map (·.type)=some 149:=by kernel_rfl
theorem zru {W:World} {g:Nat} {t:TypeId} {cs:Array Value} {fuel:Nat} {p:List MemPlace} (hg:Tryz.prog.globalNamed "loop.example/g00410/impl.emptyDir" = some g) (ht:(Tryz.prog.globals[g]?).map (·.type)=some t) (hvar:W.var? Tryz.prog "loop.example/g00410/impl.emptyDir" = some cs)
  (hd:DataW.trod (fun _=>()) Tryz.prog W 0 (fun _=>true) false fuel t cs.toList=some (Rows.laid_loop_example_g00410_impl_emptyDir,p)):ED W:=by
 obtain rfl:=Option.some.inj (zcl.symm.trans hg);obtain rfl:=Option.some.inj (zft.symm.trans ht);have e:cs.toList=[.int .i64 2,.int .i64 0,.int .i64 1,.int .i64 0,.int .i64 0,.int .i64 0,.int .i64 0,.int .i64 0,.int .i64 0,.int .i64 0,.int .i64 0]:=zxm hd;simp only[World.var?,zcl,Option.bind_some] at hvar
 split at hvar
 ·rename_i cs' t fr hh;obtain rfl:=Option.some.inj hvar;refine ⟨t,fr,?_⟩;rw[hh]
  cases cs' with
  | mk l=>simp only at e;rw[e]
 ·cases hvar
theorem zbz:Tryz.prog.globalNamed "loop.example/g00410/impl.tierSizes" = some 4:=by kernel_rfl
theorem zes:(Tryz.prog.globals[4]?).map (·.type)=some 260:=by kernel_rfl
theorem zpr {W:World} {g:Nat} {t:TypeId} {cs:Array Value} {fuel:Nat} {p:List MemPlace} (hg:Tryz.prog.globalNamed "loop.example/g00410/impl.tierSizes" = some g) (ht:(Tryz.prog.globals[g]?).map (·.type)=some t) (hvar:W.var? Tryz.prog "loop.example/g00410/impl.tierSizes" = some cs)
  (hd:DataW.trod (fun _=>()) Tryz.prog W 0 (fun _=>true) false fuel t cs.toList=some (Rows.laid_loop_example_g00410_impl_tierSizes,p)):TS W:=by
 obtain rfl:=Option.some.inj (zbz.symm.trans hg);obtain rfl:=Option.some.inj (zes.symm.trans ht);have e:cs.toList=[.int .i64 1,.int .i64 24,.int .i64 32]:=zzk hd;simp only[World.var?,zbz,Option.bind_some] at hvar
 split at hvar
 ·rename_i cs' t fr hh;obtain rfl:=Option.some.inj hvar;refine ⟨t,fr,?_⟩;rw[hh]
  cases cs' with
  | mk l=>simp only at e;rw[e]
 ·cases hvar
theorem nw {W:World} (h:laidMetH Tryz.prog Rows.fnExactWorldOKRow.laid W):SB W∧FD W∧ED W∧TS W:=by
 obtain ⟨ps,⟨g0,t0,c0,f0,p0,q0,hg0,ht0,hv0,hd0,⟨g1,t1,c1,f1,p1,q1,hg1,ht1,hv1,hd1,⟨g2,t2,c2,f2,p2,q2,hg2,ht2,hv2,hd2,⟨g3,t3,c3,f3,p3,q3,hg3,ht3,hv3,hd3,_,_⟩,_⟩,_⟩,_⟩,_⟩:=h;exact ⟨zob hg1 ht1 hv1 hd1,zms hg3 ht3 hv3 hd3,zru hg2 ht2 hv2 hd2,zpr hg0 ht0 hv0 hd0⟩
theorem zqk {P:Program} {W:World} {n:String} {g:Nat} {cs:Array Value} (hg:P.globalNamed n=some g) (h:W.var? P n=some cs):g < W.heap.size:=by
 simp only[World.var?,hg,Option.bind_some] at h
 split at h
 ·rename_i hh;exact (Array.getElem?_eq_some_iff.1 hh).1
 ·cases h
theorem zck {H:Type} {enc:TypeId×Value→H} {P:Program} {w:World} {spare:Nat→Bool} {n:String} {ns:List String} {gs:List (DataW H)} {ps:List MemPlace} (h:DataW.TrodVars enc P w spare (n :: ns) gs ps) :
  ∃ g t cs fuel d p q ds,gs=d :: ds∧P.globalNamed n=some g∧(P.globals[g]?).map (·.type)=some t∧w.var? P n=some cs∧DataW.trod enc P w 0 spare true fuel t cs.toList=some (d,p)∧DataW.TrodVars enc P w spare ns ds q:=by
 cases gs with
 | nil=>simp[DataW.TrodVars] at h
 | cons d ds =>
  obtain ⟨g,t,cs,fuel,p,q,h1,h2,h3,h4,hs,e⟩:=h;exact ⟨g,t,cs,fuel,d,p,q,ds,rfl,h1,h2,h3,h4,hs⟩
theorem zxf (H:Type) (enc:TypeId×Value→H) (W:World) (base:Nat) (args:Array Value) (ds gs:List (DataW H)) (before:List MemPlace)
  (hval:∀ (j:Nat) t v,Tryz.f4.params[j]?=some t→args[j]?=some v→Value.okWide Tryz.prog W .any base t v)
  (hW:DataW.Whole enc Tryz.prog Tryz.f4.params.toList Rows.fnExactWorldOKSpec.vars false W args.toList ds gs before) (hL:laidMetH Tryz.prog Rows.fnExactWorldOKRow.laid W) :
  Calls Tryz.prog 4 args W fun e W'=>∃ v,e=.returned v∧Rows.fnExactWorldOKSpec.post enc Tryz.prog Tryz.f4 false true false false W args v W':=by
 obtain ⟨hSB,hFD,hED,hTS⟩:=nw hL;have hW':=hW;obtain ⟨p,q,hA0,hV,rfl,hfz,hnd⟩:=hW;have hA:DataW.TrodAll enc Tryz.prog W 0 (fun _=>true) true Tryz.f4.params.toList args.toList ds p:=hA0;rw[Tryz.params4] at hA hval;obtain ⟨v0,vs0,d0,ds0,p0,q0,hargs,rfl,rfl,h0,r0⟩:=trodAll_cons hA;obtain ⟨rfl,rfl,rfl⟩:=trodAll_nil r0
 obtain rfl:args=#[v0]:=by cases args;simp_all
 have k0:=h0
 have lt0:∀ x∈p0,x.block < W.heap.size:=by obtain ⟨m,hm⟩:=k0;exact DataW.trod_lt m _ _ _ hm
 obtain ⟨ws0,ps0,es0,qs0,hs0,td0,cd0,vl0,nm0,fr0,ts0,ds0,ok0,op0,ot0,og0,ox0,az0,ag0,hW0,⟨hB0,hZ0⟩,⟨hts0,htg0,hds0,hdn0⟩,⟨hop0,hot0⟩,haz0,hap0,han0⟩:=yabi (hval 0 69 v0 rfl rfl) h0;clear hA0
 refine (zpj _ ws0 ps0 es0 qs0 hs0 td0 cd0 vl0 nm0 fr0 ts0 ds0 ok0 op0 ot0 og0 ox0 az0 ag0 W hW0 hB0 hZ0 hts0 htg0 hds0 hdn0 hop0 hot0 haz0 hap0 han0 hSB hTS hED hFD).mono fun e W' ⟨he,bel⟩=>?_
 subst he;obtain ⟨g0,t0,cs0,fu0,dd0,pp0,qq0,ds0v,rfl,hg0,hty0,hvar0,hd0,hV0⟩:=zck hV;obtain rfl:=Option.some.inj (zbs.symm.trans hg0);obtain rfl:=Option.some.inj (zdq.symm.trans hty0)
 have kd0:DataW.Trod enc Tryz.prog W 0 (fun _=>true) true 224 (.agg cs0) dd0 pp0:=⟨fu0,hd0⟩
 have ltd0:∀ x∈pp0,x.block < W.heap.size:=DataW.trod_lt fu0 _ _ _ hd0;obtain ⟨fe0,he0⟩:=Below.trod zhz (by kernel_rfl) (of_decide_eq_true (by kernel_rfl)) kd0 bel ltd0;obtain ⟨g1,t1,cs1,fu1,dd1,pp1,qq1,ds1v,rfl,hg1,hty1,hvar1,hd1,hV1⟩:=zck hV0;obtain rfl:=Option.some.inj (zbt.symm.trans hg1);obtain rfl:=Option.some.inj (zdk.symm.trans hty1)
 have kd1:DataW.Trod enc Tryz.prog W 0 (fun _=>true) true 143 (.agg cs1) dd1 pp1:=⟨fu1,hd1⟩
 have ltd1:∀ x∈pp1,x.block < W.heap.size:=DataW.trod_lt fu1 _ _ _ hd1;obtain ⟨fe1,he1⟩:=Below.trod zhz (by kernel_rfl) (of_decide_eq_true (by kernel_rfl)) kd1 bel ltd1;obtain ⟨g2,t2,cs2,fu2,dd2,pp2,qq2,ds2v,rfl,hg2,hty2,hvar2,hd2,hV2⟩:=zck hV1;obtain rfl:=Option.some.inj (zcl.symm.trans hg2);obtain rfl:=Option.some.inj (zft.symm.trans hty2)
 have kd2:DataW.Trod enc Tryz.prog W 0 (fun _=>true) true 149 (.agg cs2) dd2 pp2:=⟨fu2,hd2⟩
 have ltd2:∀ x∈pp2,x.block < W.heap.size:=DataW.trod_lt fu2 _ _ _ hd2;obtain ⟨fe2,he2⟩:=Below.trod zhz (by kernel_rfl) (of_decide_eq_true (by kernel_rfl)) kd2 bel ltd2;obtain ⟨g3,t3,cs3,fu3,dd3,pp3,qq3,ds3v,rfl,hg3,hty3,hvar3,hd3,hV3⟩:=zck hV2;obtain rfl:=Option.some.inj (zbz.symm.trans hg3);obtain rfl:=Option.some.inj (zes.symm.trans hty3)
 have kd3:DataW.Trod enc Tryz.prog W 0 (fun _=>true) true 260 (.agg cs3) dd3 pp3:=⟨fu3,hd3⟩
 have ltd3:∀ x∈pp3,x.block < W.heap.size:=DataW.trod_lt fu3 _ _ _ hd3;obtain ⟨fe3,he3⟩:=Below.trod zhz (by kernel_rfl) (of_decide_eq_true (by kernel_rfl)) kd3 bel ltd3;obtain ⟨rfl,rfl⟩:=trodVars_none hV3
 exact ⟨_,rfl,_,_,_,[],_,_,hW',trodAll_mk1 (shut_bool Tryz.underlying4 _),(trodAll_cons_mk (Below.trod zhz (by kernel_rfl) (of_decide_eq_true (by kernel_rfl)) k0 bel lt0) trodAll_mk0),
  ⟨_,_,_,fe0,_,_,zbs,zdq,var?_below bel zbs (zqk zbs hvar0) hvar0,he0,⟨_,_,_,fe1,_,_,zbt,zdk,var?_below bel zbt (zqk zbt hvar1) hvar1,he1,⟨_,_,_,fe2,_,_,zcl,zft,var?_below bel zcl (zqk zcl hvar2) hvar2,he2,⟨_,_,_,fe3,_,_,zbz,zes,var?_below bel zbz (zqk zbz hvar3) hvar3,he3,rfl,rfl⟩,rfl⟩,rfl⟩,rfl⟩,bel.frame _,fun h=>by cases h⟩
noncomputable def zif (os:Os):World :=
 { World.holding Tryz.prog os ⟨#[],#[],[]⟩ with heap:=(((((World.holding Tryz.prog os ⟨#[],#[],[]⟩).heap.modify 4 fun | .cells _ t frozen=>.cells #[.int .i64 1,.int .i64 24,.int .i64 32] t frozen | o=>o).modify 1 fun | .cells _ t frozen=>.cells #[.int .i64 0,.int .i64 0,.int .i64 336,.int .i64 1099511627776,.int .i64 336,.int .i64 1,.int .i64 1,.int .i64 1,.int .i64 32,.int .i64 1099511627776,.int .i64 1,.int .i64 1] t frozen | o=>o).modify 0 fun | .cells _ t frozen=>.cells #[.int .i64 2,.int .i64 0,.int .i64 1,.int .i64 0,.int .i64 0,.int .i64 0,.int .i64 0,.int .i64 0,.int .i64 0,.int .i64 0,.int .i64 0] t frozen | o=>o).modify 2 fun | .cells _ t frozen=>.cells #[.int .i64 0,.string ⟨#[]⟩,.int .i64 (-1)] t frozen | o=>o) }
theorem zza (os:Os):laidMet Tryz.prog Rows.fnExactWorldOKRow.laid ((zif os).forCall (fun _ _=>0) ⟨#[],#[.agg #[.slice none 0 0,.slice none 0 0,.slice none 0 0,.slice none 0 0,.slice none 0 0,.slice none 0 0,.int .i64 0,.int .i64 0,.slice none 0 0,.bool false,.slice none 0 0,.slice none 0 0,.int .i64 0,.string ⟨#[]⟩,.string ⟨#[]⟩,.int .i64 0,.int .i64 0,.slice none 0 0,.bool false]],[]⟩).memory :=
 laidMet_of_run' 8 (by kernel_rfl) (by kernel_rfl)
theorem reads (os:Os) {H:Type} (enc:TypeId×Value→H):∃ x,DataW.whole enc Tryz.prog ((zif os).forCall (fun _ _=>0) ⟨#[],#[.agg #[.slice none 0 0,.slice none 0 0,.slice none 0 0,.slice none 0 0,.slice none 0 0,.slice none 0 0,.int .i64 0,.int .i64 0,.slice none 0 0,.bool false,.slice none 0 0,.slice none 0 0,.int .i64 0,.string ⟨#[]⟩,.string ⟨#[]⟩,.int .i64 0,.int .i64 0,.slice none 0 0,.bool false]],[]⟩).memory Tryz.f4.params.toList Rows.fnExactWorldOKSpec.vars false (#[.agg #[.slice none 0 0,.slice none 0 0,.slice none 0 0,.slice none 0 0,.slice none 0 0,.slice none 0 0,.int .i64 0,.int .i64 0,.slice none 0 0,.bool false,.slice none 0 0,.slice none 0 0,.int .i64 0,.string ⟨#[]⟩,.string ⟨#[]⟩,.int .i64 0,.int .i64 0,.slice none 0 0,.bool false]]:Array Value).toList 8=some x :=
 Option.isSome_iff_exists.1 (by kernel_rfl)
theorem yadv (os:Os) (started:os.Started) (H:Type) (enc:TypeId×Value→H) (F:Stop.Interp) :
  ReturnsInHanded {} Tryz.checked os 4 .any ((OpenSpec.ofChange Rows.fnExactWorldOKSpec).preRow enc Tryz.prog Tryz.f4 Rows.fnExactWorldOKRow.domain false Rows.fnExactWorldOKRow.laid) (((OpenSpec.ofChange Rows.fnExactWorldOKSpec).at F).post enc Tryz.prog Tryz.f4 false true false false):=by
 obtain ⟨x,hx⟩:=reads os enc;refine returnsInHanded_of_row (C:=Tryz.checked) (s:=OpenSpec.ofChange Rows.fnExactWorldOKSpec) own started (by kernel_rfl) Tryz.func4
  (witness_row_at (enc:=enc) (C:=Tryz.checked) false (zif os) #[.agg #[.slice none 0 0,.slice none 0 0,.slice none 0 0,.slice none 0 0,.slice none 0 0,.slice none 0 0,.int .i64 0,.int .i64 0,.slice none 0 0,.bool false,.slice none 0 0,.slice none 0 0,.int .i64 0,.string ⟨#[]⟩,.string ⟨#[]⟩,.int .i64 0,.int .i64 0,.slice none 0 0,.bool false]] rfl (by kernel_rfl) (by kernel_rfl) (by kernel_rfl)
   (OpenSpec.preRow_of_cond 8 hx rfl (fun k hk=>by cases hk) (by kernel_rfl) (zza os))) ?_
 intro W base args ds gs before hval hW _ _ _ hL _ _;exact zxf H enc W base args ds gs before hval hW hL
theorem yadn:joinedFacts Tryz.pinned.checked.prog 4 Tryz.f4 (OpenSpec.ofChange Rows.fnExactWorldOKSpec).bare Rows.fnExactWorldOKRow=true:=by
 unfold joinedFacts
 repeat' (with_reducible refine (Bool.and_eq_true _ _).mpr ⟨?_,?_⟩)
 all_goals (as_aux_lemma=>kernel_rfl)
theorem said:Rows.FnExactWorldOKSaid :=
 OpenClaim.holds_of_cond 4 Tryz.f4 rfl rfl rfl rfl rfl rfl rfl ⟨rfl,rfl,rfl,rfl,rfl⟩ rfl rfl rfl rfl rfl (by kernel_rfl) Tryz.func4 yadn
  (of_decide_eq_true (by kernel_rfl)) (by unfold Func.isWrapper;first | (rw[if_pos (by decide +kernel)];kernel_rfl) | (rw[if_neg (by decide +kernel)];exact ⟨rfl,rfl⟩))
  (fun os started H enc _ F=>by rw[OpenClaim.pre_eq_preRow];exact yadv os started H enc F)
theorem plain (f:FuncId) (fn:Func) (hf:Tryz.pinned.checked.prog.funcNamed "loop.example/g00410/laws.FnExactWorldOK" = some f) (hfn:Tryz.pinned.checked.prog.funcs[f]?=some fn) :
  false=Tryz.pinned.checked.prog.looks []∧∀ (j:Nat) t,fn.params[j]?=some t→Tryz.pinned.checked.prog.wantsStandIn t=false:=by
 obtain rfl:f=4:=Option.some.inj ((show Tryz.prog.funcNamed "loop.example/g00410/laws.FnExactWorldOK" = some 4 by kernel_rfl).symm.trans hf) |>.symm
 obtain rfl:fn=Tryz.f4:=(Option.some.inj (Tryz.func4.symm.trans hfn)).symm;refine ⟨by kernel_rfl,fun j t ht=>?_⟩;rw[Tryz.params4] at ht;have hm:=Array.mem_of_getElem? ht;simp at hm;subst hm;exact (show Tryz.prog.wantsStandIn 69=false by kernel_rfl)
end Go.Proofs.YtbohndgbfbfldaaGreatDoor.fnExactWorldOK
namespace Go.Proofs.YtbohndgbfbfldaaGreatDoor
theorem worldOK_exact:Rows.FnExactWorldOKCardSaid :=
 Claim7.holds_tied_plain_at .later [] _ _ _ _ fnExactWorldOK.said (fun _ h=>by cases h) (by kernel_rfl) (fun _ h=>by cases h) fnExactWorldOK_row_tie rfl ⟨rfl,rfl⟩ (by kernel_rfl) rfl fnExactWorldOK.plain (by kernel_rfl)
#print axioms worldOK_exact
end Go.Proofs.YtbohndgbfbfldaaGreatDoor
