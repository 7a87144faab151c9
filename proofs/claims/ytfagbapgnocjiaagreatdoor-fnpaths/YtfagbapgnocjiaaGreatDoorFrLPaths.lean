/- All paths of an image are as the model has them, the root is found, and what a path leads to lies in the directory that its parents lead to, under its last name, and beneath it and not the other way round: at every text of choices the law answers true; no conditions but the statement's own. -/
import Derived.Test.YtfagbapgnocjiaaGreatDoorLawPaths
import Derived.Test.YtfagbapgnocjiaaGreatDoorCards
import Derived.Test.YtfagbapgnocjiaaGreatDoorTie
import Derived.Deep.DeepHandedRow
set_option maxRecDepth 100000
set_option maxHeartbeats 40000000
namespace Go.Proofs.YtfagbapgnocjiaaGreatDoor.fnPaths
open Go.ChangeShapes Go.WideShapes Go.ChangeAt Go.RowKit Go.Joins
open Go.ChangeMaps (open_string shut_string)
theorem zey:Tryz.prog.globalNamed "loop.example/g00410/impl.emptyDir" = some 2:=by kernel_rfl
theorem zjw:(Tryz.prog.globals[2]?).map (·.type)=some 41:=by kernel_rfl
theorem yabi {W:World} {g:Nat} {t:TypeId} {cs:Array Value} {fuel:Nat} {p:List MemPlace} (hg:Tryz.prog.globalNamed "loop.example/g00410/impl.emptyDir" = some g) (ht:(Tryz.prog.globals[g]?).map (·.type)=some t) (hvar:W.var? Tryz.prog "loop.example/g00410/impl.emptyDir" = some cs)
  (hd:DataW.trod (fun _=>()) Tryz.prog W 0 (fun _=>true) false fuel t cs.toList=some (Rows.laid_loop_example_g00410_impl_emptyDir,p)):ED W:=by
 obtain rfl:=Option.some.inj (zey.symm.trans hg);obtain rfl:=Option.some.inj (zjw.symm.trans ht);have e:cs.toList=[.I 2,.I 0,.I 1,.I 0,.I 0,.I 0,.I 0,.I 0,.I 0,.I 0,.I 0]:=yamo hd;simp only[World.var?,zey,Option.bind_some]at hvar
 split at hvar
 ·rename_i cs' t fr hh;obtain rfl:=Option.some.inj hvar;refine⟨t,fr,?_⟩;rw[hh]
  cases cs' with
  | mk l=>simp only at e;rw[e]
 ·cases hvar
theorem zea:Tryz.prog.globalNamed "loop.example/g00410/impl.tierSizes" = some 5:=by kernel_rfl
theorem zie:(Tryz.prog.globals[5]?).map (·.type)=some 218:=by kernel_rfl
theorem zxf {W:World} {g:Nat} {t:TypeId} {cs:Array Value} {fuel:Nat} {p:List MemPlace} (hg:Tryz.prog.globalNamed "loop.example/g00410/impl.tierSizes" = some g) (ht:(Tryz.prog.globals[g]?).map (·.type)=some t) (hvar:W.var? Tryz.prog "loop.example/g00410/impl.tierSizes" = some cs)
  (hd:DataW.trod (fun _=>()) Tryz.prog W 0 (fun _=>true) false fuel t cs.toList=some (Rows.laid_loop_example_g00410_impl_tierSizes,p)):TS W:=by
 obtain rfl:=Option.some.inj (zea.symm.trans hg);obtain rfl:=Option.some.inj (zie.symm.trans ht);have e:cs.toList=[.I 1,.I 24,.I 32]:=yami hd;simp only[World.var?,zea,Option.bind_some]at hvar
 split at hvar
 ·rename_i cs' t fr hh;obtain rfl:=Option.some.inj hvar;refine⟨t,fr,?_⟩;rw[hh]
  cases cs' with
  | mk l=>simp only at e;rw[e]
 ·cases hvar
theorem zdc:Tryz.prog.globalNamed "loop.example/g00410/impl.freeDirent" = some 0:=by kernel_rfl
theorem zgw:(Tryz.prog.globals[0]?).map (·.type)=some 52:=by kernel_rfl
theorem zsz {W:World} {g:Nat} {t:TypeId} {cs:Array Value} {fuel:Nat} {p:List MemPlace} (hg:Tryz.prog.globalNamed "loop.example/g00410/impl.freeDirent" = some g) (ht:(Tryz.prog.globals[g]?).map (·.type)=some t) (hvar:W.var? Tryz.prog "loop.example/g00410/impl.freeDirent" = some cs)
  (hd:DataW.trod (fun _=>()) Tryz.prog W 0 (fun _=>true) false fuel t cs.toList=some (Rows.laid_loop_example_g00410_impl_freeDirent,p)):FD W:=by
 obtain rfl:=Option.some.inj (zdc.symm.trans hg);obtain rfl:=Option.some.inj (zgw.symm.trans ht);have e:cs.toList=[.I 0,.string ⟨#[]⟩,.I (-1)]:=yamb hd;simp only[World.var?,zdc,Option.bind_some]at hvar
 split at hvar
 ·rename_i cs' t fr hh;obtain rfl:=Option.some.inj hvar;refine⟨t,fr,?_⟩;rw[hh]
  cases cs' with
  | mk l=>simp only at e;rw[e]
 ·cases hvar
theorem nw{W:World}(h:laidMetH Tryz.prog Rows.fnPathsRow.laid W):ED W/\TS W/\FD W:=by
 obtain⟨ps,⟨g0,t0,c0,f0,p0,q0,hg0,ht0,hv0,hd0,⟨g1,t1,c1,f1,p1,q1,hg1,ht1,hv1,hd1,⟨g2,t2,c2,f2,p2,q2,hg2,ht2,hv2,hd2,⟨g3,t3,c3,f3,p3,q3,hg3,ht3,hv3,hd3,⟨g4,t4,c4,f4,p4,q4,hg4,ht4,hv4,hd4,_,_⟩,_⟩,_⟩,_⟩,_⟩,_⟩:=h;exact⟨yabi hg2 ht2 hv2 hd2,zxf hg1 ht1 hv1 hd1,zsz hg3 ht3 hv3 hd3⟩
theorem yaga{P:Program}{W:World}{n:String}{g:Nat}{cs:Array Value}(hg:P.globalNamed n=some g)(h:W.var? P n=some cs):g<W.heap.size:=by
 simp only[World.var?,hg,Option.bind_some]at h
 split at h
 ·rename_i hh;exact(Array.getElem?_eq_some_iff.1 hh).1
 ·cases h
theorem zgd{H:Type}{enc:TypeId×Value->H}{P:Program}{w:World}{spare:Nat->Bool}{n:String}{ns:List String}{gs:List (DataW H)}{ps:List MemPlace}(h:DataW.TrodVars enc P w spare (n::ns) gs ps) :
  ∃ g t cs fuel d p q ds,gs=d::ds/\P.globalNamed n=some g/\(P.globals[g]?).map (·.type)=some t/\w.var? P n=some cs/\DataW.trod enc P w 0 spare true fuel t cs.toList=some (d,p)/\DataW.TrodVars enc P w spare ns ds q:=by
 cases gs with
 | nil=>simp[DataW.TrodVars]at h
 | cons d ds =>
  obtain⟨g,t,cs,fuel,p,q,h1,h2,h3,h4,hs,e⟩:=h;exact⟨g,t,cs,fuel,d,p,q,ds,rfl,h1,h2,h3,h4,hs⟩
theorem yalw (H:Type) (enc:TypeId×Value->H) (W:World) (base:Nat) (args:Array Value) (ds gs:List (DataW H)) (before:List MemPlace)
  (hval:∀ (j:Nat) t v,Tryz.f3.params[j]?=some t->args[j]?=some v->Value.okWide Tryz.prog W .any base t v)
  (hW:DataW.Whole enc Tryz.prog Tryz.f3.params.toList Rows.fnPathsSpec.vars false W args.toList ds gs before) (hL:laidMetH Tryz.prog Rows.fnPathsRow.laid W) :
  zC 3 args W fun e W'=>∃ v,e=.returned v/\Rows.fnPathsSpec.post enc Tryz.prog Tryz.f3 false true false false W args v W':=by
 obtain⟨hED,hTS,hFD⟩:=nw hL;have hW':=hW;obtain⟨p,q,hA0,hV,rfl,hfz,hnd⟩:=hW;have hA:DataW.TrodAll enc Tryz.prog W 0 (fun _=>true) true Tryz.f3.params.toList args.toList ds p:=hA0;rw[Tryz.params3]at hA hval;obtain⟨v0,vs0,d0,ds0,p0,q0,hargs,rfl,rfl,h0,r0⟩:=trodAll_cons hA;obtain⟨rfl,rfl,rfl⟩:=trodAll_nil r0
 obtain rfl:args=#[v0]:=by cases args;simp_all
 have k0:=h0
 have lt0:∀ x∈p0,x.block<W.heap.size:=by obtain⟨m,hm⟩:=k0;exact DataW.trod_lt m _ _ _ hm
 obtain⟨z0,hz0,hl0⟩:∃ zs:List Int,RdB W v0 zs/\zs.length<=maxLen:=by
  obtain⟨ao,len,cap,rfl⟩:=okWide_slice Tryz.underlying22 (hval 0 22 v0 rfl rfl);obtain⟨fuel,hf⟩:=h0;exact yala hf
 clear hA0
 refine(zyj zsj v0 z0 W hz0 hTS hED hFD).mono fun e W' ⟨he,bel⟩=>?_
 subst he;obtain⟨g0,t0,cs0,fu0,dd0,pp0,qq0,ds0v,rfl,hg0,hty0,hvar0,hd0,hV0⟩:=zgd hV;obtain rfl:=Option.some.inj (zey.symm.trans hg0);obtain rfl:=Option.some.inj (zjw.symm.trans hty0)
 have kd0:DataW.Trod enc Tryz.prog W 0 (fun _=>true) true 41 (.agg cs0) dd0 pp0:=⟨fu0,hd0⟩
 have ltd0:∀ x∈pp0,x.block<W.heap.size:=DataW.trod_lt fu0 _ _ _ hd0;obtain⟨fe0,he0⟩:=Below.trod zsm (by kernel_rfl) (of_decide_eq_true (by kernel_rfl)) kd0 bel ltd0;obtain⟨g1,t1,cs1,fu1,dd1,pp1,qq1,ds1v,rfl,hg1,hty1,hvar1,hd1,hV1⟩:=zgd hV0;obtain rfl:=Option.some.inj (zea.symm.trans hg1);obtain rfl:=Option.some.inj (zie.symm.trans hty1)
 have kd1:DataW.Trod enc Tryz.prog W 0 (fun _=>true) true 218 (.agg cs1) dd1 pp1:=⟨fu1,hd1⟩
 have ltd1:∀ x∈pp1,x.block<W.heap.size:=DataW.trod_lt fu1 _ _ _ hd1;obtain⟨fe1,he1⟩:=Below.trod zsm (by kernel_rfl) (of_decide_eq_true (by kernel_rfl)) kd1 bel ltd1;obtain⟨g2,t2,cs2,fu2,dd2,pp2,qq2,ds2v,rfl,hg2,hty2,hvar2,hd2,hV2⟩:=zgd hV1;obtain rfl:=Option.some.inj (zdc.symm.trans hg2);obtain rfl:=Option.some.inj (zgw.symm.trans hty2)
 have kd2:DataW.Trod enc Tryz.prog W 0 (fun _=>true) true 52 (.agg cs2) dd2 pp2:=⟨fu2,hd2⟩
 have ltd2:∀ x∈pp2,x.block<W.heap.size:=DataW.trod_lt fu2 _ _ _ hd2;obtain⟨fe2,he2⟩:=Below.trod zsm (by kernel_rfl) (of_decide_eq_true (by kernel_rfl)) kd2 bel ltd2;obtain⟨rfl,rfl⟩:=trodVars_none hV2
 exact⟨_,rfl,_,_,_,[],_,_,hW',trodAll_mk1 (shut_bool Tryz.underlying4 _),(trodAll_cons_mk (Below.trod zsm (by kernel_rfl) (of_decide_eq_true (by kernel_rfl)) k0 bel lt0) trodAll_mk0),
  ⟨_,_,_,fe0,_,_,zey,zjw,var?_below bel zey (yaga zey hvar0) hvar0,he0,⟨_,_,_,fe1,_,_,zea,zie,var?_below bel zea (yaga zea hvar1) hvar1,he1,⟨_,_,_,fe2,_,_,zdc,zgw,var?_below bel zdc (yaga zdc hvar2) hvar2,he2,rfl,rfl⟩,rfl⟩,rfl⟩,bel.frame _,fun h=>by cases h⟩
noncomputable def zmh (os:Os):World :=
 { World.holding Tryz.prog os ⟨#[],#[],[]⟩with heap:=((((((World.holding Tryz.prog os ⟨#[],#[],[]⟩).heap.modify 4 fun | .cells _ t frozen=>.cells #[.int .u8 128,.int .u8 191,.int .u8 160,.int .u8 191,.int .u8 128,.int .u8 159,.int .u8 144,.int .u8 191,.int .u8 128,.int .u8 143,.int .u8 0,.int .u8 0,.int .u8 0,.int .u8 0,.int .u8 0,.int .u8 0,.int .u8 0,.int .u8 0,.int .u8 0,.int .u8 0,.int .u8 0,.int .u8 0,.int .u8 0,.int .u8 0,.int .u8 0,.int .u8 0,.int .u8 0,.int .u8 0,.int .u8 0,.int .u8 0,.int .u8 0,.int .u8 0] t frozen | o=>o).modify 5 fun | .cells _ t frozen=>.cells #[.I 1,.I 24,.I 32] t frozen | o=>o).modify 2 fun | .cells _ t frozen=>.cells #[.I 2,.I 0,.I 1,.I 0,.I 0,.I 0,.I 0,.I 0,.I 0,.I 0,.I 0] t frozen | o=>o).modify 0 fun | .cells _ t frozen=>.cells #[.I 0,.string ⟨#[]⟩,.I (-1)] t frozen | o=>o).modify 3 fun | .cells _ t frozen=>.cells (Go.Pinned.utf8FirstZ.map fun(n:Nat)=>Value.int .u8 (n:Int)).toArray t frozen | o=>o) }
theorem yamv(os:Os):laidMet Tryz.prog Rows.fnPathsRow.laid ((zmh os).forCall (fun _ _=>0) ⟨#[],#[.N],[]⟩).memory :=
 laidMet_of_run' 8 (by kernel_rfl) (by kernel_rfl)
theorem yatr(os:Os){H:Type}(enc:TypeId×Value->H):∃ x,DataW.whole enc Tryz.prog ((zmh os).forCall (fun _ _=>0) ⟨#[],#[.N],[]⟩).memory Tryz.f3.params.toList Rows.fnPathsSpec.vars false (#[.N]:Array Value).toList 8=some x :=
 Option.isSome_iff_exists.1 (by kernel_rfl)
theorem yaqx(os:Os)(started:os.Started)(H:Type)(enc:TypeId×Value->H)(F:Stop.Interp) :
  ReturnsInHanded {} Tryz.checked os 3 .any ((OpenSpec.ofChange Rows.fnPathsSpec).preRow enc Tryz.prog Tryz.f3 Rows.fnPathsRow.domain false Rows.fnPathsRow.laid) (((OpenSpec.ofChange Rows.fnPathsSpec).at F).post enc Tryz.prog Tryz.f3 false true false false):=by
 obtain⟨x,hx⟩:=yatr os enc;refine returnsInHanded_of_row (C:=Tryz.checked) (s:=OpenSpec.ofChange Rows.fnPathsSpec) own started (by kernel_rfl) Tryz.func3
  (witness_row_at (enc:=enc) (C:=Tryz.checked) false (zmh os) #[.N] rfl (by kernel_rfl) (by kernel_rfl) (by kernel_rfl)
   (OpenSpec.preRow_of_cond 8 hx rfl (fun k hk=>by cases hk) (by kernel_rfl) (yamv os))) ?_
 intro W base args ds gs before hval hW _ _ _ hL _ _;exact yalw H enc W base args ds gs before hval hW hL
theorem yart:joinedFacts Tryz.pinned.checked.prog 3 Tryz.f3 (OpenSpec.ofChange Rows.fnPathsSpec).bare Rows.fnPathsRow=true:=by
 unfold joinedFacts
 repeat' (with_reducible refine(Bool.and_eq_true _ _).mpr ⟨?_,?_⟩)
 all_goals (as_aux_lemma=>kernel_rfl)
theorem said:Rows.FnPathsSaid :=
 OpenClaim.holds_of_cond 3 Tryz.f3 rfl rfl rfl rfl rfl rfl rfl ⟨rfl,rfl,rfl,rfl,rfl⟩ rfl rfl rfl rfl rfl (by kernel_rfl) Tryz.func3 yart
  (of_decide_eq_true (by kernel_rfl)) (by unfold Func.isWrapper;first | (rw[if_pos (by decide +kernel)];kernel_rfl) | (rw[if_neg (by decide +kernel)];exact⟨rfl,rfl⟩))
  (fun os started H enc _ F=>by rw[OpenClaim.pre_eq_preRow];exact yaqx os started H enc F)
theorem plain(f:FuncId)(fn:Func)(hf:Tryz.pinned.checked.prog.funcNamed "loop.example/g00410/laws.FnPaths" = some f)(hfn:Tryz.pinned.checked.prog.funcs[f]?=some fn) :
  false=Tryz.pinned.checked.prog.looks []/\∀ (j:Nat) t,fn.params[j]?=some t->Tryz.pinned.checked.prog.wantsStandIn t=false:=by
 obtain rfl:f=3:=Option.some.inj ((show Tryz.prog.funcNamed "loop.example/g00410/laws.FnPaths" = some 3 by kernel_rfl).symm.trans hf) |>.symm
 obtain rfl:fn=Tryz.f3:=(Option.some.inj (Tryz.func3.symm.trans hfn)).symm;refine⟨by kernel_rfl,fun j t ht=>?_⟩;rw[Tryz.params3]at ht;have hm:=Array.mem_of_getElem? ht;simp at hm;subst hm;exact(show Tryz.prog.wantsStandIn 22=false by kernel_rfl)
end Go.Proofs.YtfagbapgnocjiaaGreatDoor.fnPaths
namespace Go.Proofs.YtfagbapgnocjiaaGreatDoor
theorem fnPaths_holds:Rows.FnPathsCardSaid :=
 Claim7.holds_tied_plain_at .later [] _ _ _ _ fnPaths.said (fun _ h=>by cases h) (by kernel_rfl) (fun _ h=>by cases h) fnPaths_row_tie rfl ⟨rfl,rfl⟩ (by kernel_rfl) rfl fnPaths.plain (by kernel_rfl)
#print axioms fnPaths_holds
end Go.Proofs.YtfagbapgnocjiaaGreatDoor
