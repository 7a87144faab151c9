/- Operations are planned as the document says, and those that only look take no steps: at every two texts of choices the law answers true; no conditions but the statement's own. -/
import Derived.Test.YtogcbbkhnpmgeaaGreatDoorZCA
import Derived.Test.YtogcbbkhnpmgeaaGreatDoorCards
import Derived.Test.YtogcbbkhnpmgeaaGreatDoorTie
import Derived.Deep.DeepHandedRow
set_option maxRecDepth 100000
set_option maxHeartbeats 40000000
namespace Go.Proofs.YtogcbbkhnpmgeaaGreatDoor.fnPlan
open Go.ChangeShapes Go.WideShapes Go.ChangeAt Go.RowKit Go.Joins
open Go.ChangeMaps (open_string shut_string)
theorem zej:Tryz.prog.globalNamed "loop.example/g00410/impl.freeDirent" = some 0:=by kernel_rfl
theorem zjl:(Tryz.prog.globals[0]?).map (·.type)=some 90:=by kernel_rfl
theorem yabg {W:World} {g:Nat} {t:TypeId} {cs:Array Value} {fuel:Nat} {p:List MemPlace} (hg:Tryz.prog.globalNamed "loop.example/g00410/impl.freeDirent" = some g) (ht:(Tryz.prog.globals[g]?).map (·.type)=some t) (hvar:W.var? Tryz.prog "loop.example/g00410/impl.freeDirent" = some cs)
  (hd:DataW.trod (fun _=>()) Tryz.prog W 0 (fun _=>true) false fuel t cs.toList=some (Rows.laid_loop_example_g00410_impl_freeDirent,p)):FD W:=by
 obtain rfl:=Option.some.inj (zej.symm.trans hg);obtain rfl:=Option.some.inj (zjl.symm.trans ht);have e:cs.toList=[.I 0,.string ⟨#[]⟩,.I (-1)]:=yasz hd;simp only[World.var?,zej,Option.bind_some]at hvar
 split at hvar
 ·rename_i cs' t fr hh;obtain rfl:=Option.some.inj hvar;refine⟨t,fr,?_⟩;rw[hh]
  cases cs' with
  | mk l=>simp only at e;rw[e]
 ·cases hvar
theorem zgb:Tryz.prog.globalNamed "loop.example/g00410/impl.emptyDir" = some 1:=by kernel_rfl
theorem zni:(Tryz.prog.globals[1]?).map (·.type)=some 87:=by kernel_rfl
theorem yajz {W:World} {g:Nat} {t:TypeId} {cs:Array Value} {fuel:Nat} {p:List MemPlace} (hg:Tryz.prog.globalNamed "loop.example/g00410/impl.emptyDir" = some g) (ht:(Tryz.prog.globals[g]?).map (·.type)=some t) (hvar:W.var? Tryz.prog "loop.example/g00410/impl.emptyDir" = some cs)
  (hd:DataW.trod (fun _=>()) Tryz.prog W 0 (fun _=>true) false fuel t cs.toList=some (Rows.laid_loop_example_g00410_impl_emptyDir,p)):ED W:=by
 obtain rfl:=Option.some.inj (zgb.symm.trans hg);obtain rfl:=Option.some.inj (zni.symm.trans ht);have e:cs.toList=[.I 2,.I 0,.I 1,.I 0,.I 0,.I 0,.I 0,.I 0,.I 0,.I 0,.I 0]:=yasq hd;simp only[World.var?,zgb,Option.bind_some]at hvar
 split at hvar
 ·rename_i cs' t fr hh;obtain rfl:=Option.some.inj hvar;refine⟨t,fr,?_⟩;rw[hh]
  cases cs' with
  | mk l=>simp only at e;rw[e]
 ·cases hvar
theorem zeu:Tryz.prog.globalNamed "loop.example/g00410/impl.tierSizes" = some 3:=by kernel_rfl
theorem zli:(Tryz.prog.globals[3]?).map (·.type)=some 235:=by kernel_rfl
theorem yadc {W:World} {g:Nat} {t:TypeId} {cs:Array Value} {fuel:Nat} {p:List MemPlace} (hg:Tryz.prog.globalNamed "loop.example/g00410/impl.tierSizes" = some g) (ht:(Tryz.prog.globals[g]?).map (·.type)=some t) (hvar:W.var? Tryz.prog "loop.example/g00410/impl.tierSizes" = some cs)
  (hd:DataW.trod (fun _=>()) Tryz.prog W 0 (fun _=>true) false fuel t cs.toList=some (Rows.laid_loop_example_g00410_impl_tierSizes,p)):TS W:=by
 obtain rfl:=Option.some.inj (zeu.symm.trans hg);obtain rfl:=Option.some.inj (zli.symm.trans ht);have e:cs.toList=[.I 1,.I 24,.I 32]:=yaso hd;simp only[World.var?,zeu,Option.bind_some]at hvar
 split at hvar
 ·rename_i cs' t fr hh;obtain rfl:=Option.some.inj hvar;refine⟨t,fr,?_⟩;rw[hh]
  cases cs' with
  | mk l=>simp only at e;rw[e]
 ·cases hvar
theorem zhy:Tryz.prog.globalNamed "loop.example/g00410/impl.noWrite" = some 2:=by kernel_rfl
theorem zql:(Tryz.prog.globals[2]?).map (·.type)=some 160:=by kernel_rfl
theorem yanv {W:World} {g:Nat} {t:TypeId} {cs:Array Value} {fuel:Nat} {p:List MemPlace} (hg:Tryz.prog.globalNamed "loop.example/g00410/impl.noWrite" = some g) (ht:(Tryz.prog.globals[g]?).map (·.type)=some t) (hvar:W.var? Tryz.prog "loop.example/g00410/impl.noWrite" = some cs)
  (hd:DataW.trod (fun _=>()) Tryz.prog W 0 (fun _=>true) false fuel t cs.toList=some (Rows.laid_loop_example_g00410_impl_noWrite,p)):NW W:=by
 obtain rfl:=Option.some.inj (zhy.symm.trans hg);obtain rfl:=Option.some.inj (zql.symm.trans ht);have e:cs.toList=[.I (-1),.I 0]:=yavg hd;simp only[World.var?,zhy,Option.bind_some]at hvar
 split at hvar
 ·rename_i cs' t fr hh;obtain rfl:=Option.some.inj hvar;refine⟨t,fr,?_⟩;rw[hh]
  cases cs' with
  | mk l=>simp only at e;rw[e]
 ·cases hvar
theorem nw{W:World}(h:laidMetH Tryz.prog Rows.fnPlanRow.laid W):FD W/\ED W/\TS W/\NW W:=by
 obtain⟨ps,⟨g0,t0,c0,f0,p0,q0,hg0,ht0,hv0,hd0,⟨g1,t1,c1,f1,p1,q1,hg1,ht1,hv1,hd1,⟨g2,t2,c2,f2,p2,q2,hg2,ht2,hv2,hd2,⟨g3,t3,c3,f3,p3,q3,hg3,ht3,hv3,hd3,⟨g4,t4,c4,f4,p4,q4,hg4,ht4,hv4,hd4,⟨g5,t5,c5,f5,p5,q5,hg5,ht5,hv5,hd5,_,_⟩,_⟩,_⟩,_⟩,_⟩,_⟩,_⟩:=h;exact⟨yabg hg4 ht4 hv4 hd4,yajz hg3 ht3 hv3 hd3,yadc hg2 ht2 hv2 hd2,yanv hg1 ht1 hv1 hd1⟩
theorem yagp{P:Program}{W:World}{n:String}{g:Nat}{cs:Array Value}(hg:P.globalNamed n=some g)(h:W.var? P n=some cs):g<W.heap.size:=by
 simp only[World.var?,hg,Option.bind_some]at h
 split at h
 ·rename_i hh;exact(Array.getElem?_eq_some_iff.1 hh).1
 ·cases h
theorem zfq{H:Type}{enc:TypeId×Value->H}{P:Program}{w:World}{spare:Nat->Bool}{n:String}{ns:List String}{gs:List (DataW H)}{ps:List MemPlace}(h:DataW.TrodVars enc P w spare (n::ns) gs ps) :
  ∃ g t cs fuel d p q ds,gs=d::ds/\P.globalNamed n=some g/\(P.globals[g]?).map (·.type)=some t/\w.var? P n=some cs/\DataW.trod enc P w 0 spare true fuel t cs.toList=some (d,p)/\DataW.TrodVars enc P w spare ns ds q:=by
 cases gs with
 | nil=>simp[DataW.TrodVars]at h
 | cons d ds =>
  obtain⟨g,t,cs,fuel,p,q,h1,h2,h3,h4,hs,e⟩:=h;exact⟨g,t,cs,fuel,d,p,q,ds,rfl,h1,h2,h3,h4,hs⟩
theorem yauj (H:Type) (enc:TypeId×Value->H) (W:World) (base:Nat) (args:Array Value) (ds gs:List (DataW H)) (before:List MemPlace)
  (hval:∀ (j:Nat) t v,Tryz.f3.params[j]?=some t->args[j]?=some v->Value.okWide Tryz.prog W .any base t v)
  (hW:DataW.Whole enc Tryz.prog Tryz.f3.params.toList Rows.fnPlanSpec.vars false W args.toList ds gs before) (hL:laidMetH Tryz.prog Rows.fnPlanRow.laid W) :
  zC 3 args W fun e W'=>∃ v,e=.returned v/\Rows.fnPlanSpec.post enc Tryz.prog Tryz.f3 false true false false W args v W':=by
 obtain⟨hFD,hED,hTS,hNW⟩:=nw hL;have hW':=hW;obtain⟨p,q,hA0,hV,rfl,hfz,hnd⟩:=hW;have hA:DataW.TrodAll enc Tryz.prog W 0 (fun _=>true) true Tryz.f3.params.toList args.toList ds p:=hA0;rw[Tryz.params3]at hA hval;obtain⟨v0,vs0,d0,ds0,p0,q0,hargs,rfl,rfl,h0,r0⟩:=trodAll_cons hA;obtain⟨v1,vs1,d1,ds1,p1,q1,rfl,rfl,rfl,h1,r1⟩:=trodAll_cons r0;obtain⟨rfl,rfl,rfl⟩:=trodAll_nil r1
 obtain rfl:args=#[v0,v1]:=by cases args;simp_all
 have k0:=h0
 have lt0:∀ x∈p0,x.block<W.heap.size:=by obtain⟨m,hm⟩:=k0;exact DataW.trod_lt m _ _ _ hm
 obtain⟨z0,hz0,hl0⟩:∃ zs:List Int,RdB W v0 zs/\zs.length<=maxLen:=by
  obtain⟨ao,len,cap,rfl⟩:=okWide_slice Tryz.underlying22 (hval 0 22 v0 rfl rfl);obtain⟨fuel,hf⟩:=h0;exact yafk hf
 have k1:=h1
 have lt1:∀ x∈p1,x.block<W.heap.size:=by obtain⟨m,hm⟩:=k1;exact DataW.trod_lt m _ _ _ hm
 obtain⟨z1,hz1,hl1⟩:∃ zs:List Int,RdB W v1 zs/\zs.length<=maxLen:=by
  obtain⟨ao,len,cap,rfl⟩:=okWide_slice Tryz.underlying22 (hval 1 22 v1 rfl rfl);obtain⟨fuel,hf⟩:=h1;exact yafk hf
 clear hA0
 refine(yajd v0 v1 z0 z1 W hz0 hz1 hTS hED hFD hNW).mono fun e W' ⟨he,bel⟩=>?_
 subst he;obtain⟨g0,t0,cs0,fu0,dd0,pp0,qq0,ds0v,rfl,hg0,hty0,hvar0,hd0,hV0⟩:=zfq hV;obtain rfl:=Option.some.inj (zej.symm.trans hg0);obtain rfl:=Option.some.inj (zjl.symm.trans hty0)
 have kd0:DataW.Trod enc Tryz.prog W 0 (fun _=>true) true 90 (.agg cs0) dd0 pp0:=⟨fu0,hd0⟩
 have ltd0:∀ x∈pp0,x.block<W.heap.size:=DataW.trod_lt fu0 _ _ _ hd0;obtain⟨fe0,he0⟩:=Below.trod znl (by kernel_rfl) (of_decide_eq_true (by kernel_rfl)) kd0 bel ltd0;obtain⟨g1,t1,cs1,fu1,dd1,pp1,qq1,ds1v,rfl,hg1,hty1,hvar1,hd1,hV1⟩:=zfq hV0;obtain rfl:=Option.some.inj (zgb.symm.trans hg1);obtain rfl:=Option.some.inj (zni.symm.trans hty1)
 have kd1:DataW.Trod enc Tryz.prog W 0 (fun _=>true) true 87 (.agg cs1) dd1 pp1:=⟨fu1,hd1⟩
 have ltd1:∀ x∈pp1,x.block<W.heap.size:=DataW.trod_lt fu1 _ _ _ hd1;obtain⟨fe1,he1⟩:=Below.trod znl (by kernel_rfl) (of_decide_eq_true (by kernel_rfl)) kd1 bel ltd1;obtain⟨g2,t2,cs2,fu2,dd2,pp2,qq2,ds2v,rfl,hg2,hty2,hvar2,hd2,hV2⟩:=zfq hV1;obtain rfl:=Option.some.inj (zeu.symm.trans hg2);obtain rfl:=Option.some.inj (zli.symm.trans hty2)
 have kd2:DataW.Trod enc Tryz.prog W 0 (fun _=>true) true 235 (.agg cs2) dd2 pp2:=⟨fu2,hd2⟩
 have ltd2:∀ x∈pp2,x.block<W.heap.size:=DataW.trod_lt fu2 _ _ _ hd2;obtain⟨fe2,he2⟩:=Below.trod znl (by kernel_rfl) (of_decide_eq_true (by kernel_rfl)) kd2 bel ltd2;obtain⟨g3,t3,cs3,fu3,dd3,pp3,qq3,ds3v,rfl,hg3,hty3,hvar3,hd3,hV3⟩:=zfq hV2;obtain rfl:=Option.some.inj (zhy.symm.trans hg3);obtain rfl:=Option.some.inj (zql.symm.trans hty3)
 have kd3:DataW.Trod enc Tryz.prog W 0 (fun _=>true) true 160 (.agg cs3) dd3 pp3:=⟨fu3,hd3⟩
 have ltd3:∀ x∈pp3,x.block<W.heap.size:=DataW.trod_lt fu3 _ _ _ hd3;obtain⟨fe3,he3⟩:=Below.trod znl (by kernel_rfl) (of_decide_eq_true (by kernel_rfl)) kd3 bel ltd3;obtain⟨rfl,rfl⟩:=trodVars_none hV3
 exact⟨_,rfl,_,_,_,[],_,_,hW',trodAll_mk1 (shut_bool Tryz.underlying4 _),(trodAll_cons_mk (Below.trod znl (by kernel_rfl) (of_decide_eq_true (by kernel_rfl)) k0 bel lt0) (trodAll_cons_mk (Below.trod znl (by kernel_rfl) (of_decide_eq_true (by kernel_rfl)) k1 bel lt1) trodAll_mk0)),
  ⟨_,_,_,fe0,_,_,zej,zjl,var?_below bel zej (yagp zej hvar0) hvar0,he0,⟨_,_,_,fe1,_,_,zgb,zni,var?_below bel zgb (yagp zgb hvar1) hvar1,he1,⟨_,_,_,fe2,_,_,zeu,zli,var?_below bel zeu (yagp zeu hvar2) hvar2,he2,⟨_,_,_,fe3,_,_,zhy,zql,var?_below bel zhy (yagp zhy hvar3) hvar3,he3,rfl,rfl⟩,rfl⟩,rfl⟩,rfl⟩,bel.frame _,fun h=>by cases h⟩
noncomputable def zrv (os:Os):World :=
 { World.holding Tryz.prog os ⟨#[],#[],[]⟩with heap:=(((((((World.holding Tryz.prog os ⟨#[],#[],[]⟩).heap.modify 6 fun | .cells _ t frozen=>.cells #[.int .u8 128,.int .u8 191,.int .u8 160,.int .u8 191,.int .u8 128,.int .u8 159,.int .u8 144,.int .u8 191,.int .u8 128,.int .u8 143,.int .u8 0,.int .u8 0,.int .u8 0,.int .u8 0,.int .u8 0,.int .u8 0,.int .u8 0,.int .u8 0,.int .u8 0,.int .u8 0,.int .u8 0,.int .u8 0,.int .u8 0,.int .u8 0,.int .u8 0,.int .u8 0,.int .u8 0,.int .u8 0,.int .u8 0,.int .u8 0,.int .u8 0,.int .u8 0] t frozen | o=>o).modify 2 fun | .cells _ t frozen=>.cells #[.I (-1),.I 0] t frozen | o=>o).modify 3 fun | .cells _ t frozen=>.cells #[.I 1,.I 24,.I 32] t frozen | o=>o).modify 1 fun | .cells _ t frozen=>.cells #[.I 2,.I 0,.I 1,.I 0,.I 0,.I 0,.I 0,.I 0,.I 0,.I 0,.I 0] t frozen | o=>o).modify 0 fun | .cells _ t frozen=>.cells #[.I 0,.string ⟨#[]⟩,.I (-1)] t frozen | o=>o).modify 5 fun | .cells _ t frozen=>.cells (Go.Pinned.utf8FirstZ.map fun(n:Nat)=>Value.int .u8 (n:Int)).toArray t frozen | o=>o) }
theorem yavh(os:Os):laidMet Tryz.prog Rows.fnPlanRow.laid ((zrv os).forCall (fun _ _=>0) ⟨#[],#[.N,.N],[]⟩).memory :=
 laidMet_of_run' 8 (by kernel_rfl) (by kernel_rfl)
theorem ybdw(os:Os){H:Type}(enc:TypeId×Value->H):∃ x,DataW.whole enc Tryz.prog ((zrv os).forCall (fun _ _=>0) ⟨#[],#[.N,.N],[]⟩).memory Tryz.f3.params.toList Rows.fnPlanSpec.vars false (#[.N,.N]:Array Value).toList 8=some x :=
 Option.isSome_iff_exists.1 (by kernel_rfl)
theorem ybcu(os:Os)(started:os.Started)(H:Type)(enc:TypeId×Value->H)(F:Stop.Interp) :
  ReturnsInHanded {} Tryz.checked os 3 .any ((OpenSpec.ofChange Rows.fnPlanSpec).preRow enc Tryz.prog Tryz.f3 Rows.fnPlanRow.domain false Rows.fnPlanRow.laid) (((OpenSpec.ofChange Rows.fnPlanSpec).at F).post enc Tryz.prog Tryz.f3 false true false false):=by
 obtain⟨x,hx⟩:=ybdw os enc;refine returnsInHanded_of_row (C:=Tryz.checked) (s:=OpenSpec.ofChange Rows.fnPlanSpec) own started (by kernel_rfl) Tryz.func3
  (witness_row_at (enc:=enc) (C:=Tryz.checked) false (zrv os) #[.N,.N] rfl (by kernel_rfl) (by kernel_rfl) (by kernel_rfl)
   (OpenSpec.preRow_of_cond 8 hx rfl (fun k hk=>by cases hk) (by kernel_rfl) (yavh os))) ?_
 intro W base args ds gs before hval hW _ _ _ hL _ _;exact yauj H enc W base args ds gs before hval hW hL
theorem ybcd:joinedFacts Tryz.pinned.checked.prog 3 Tryz.f3 (OpenSpec.ofChange Rows.fnPlanSpec).bare Rows.fnPlanRow=true:=by
 unfold joinedFacts
 repeat' (with_reducible refine(Bool.and_eq_true _ _).mpr ⟨?_,?_⟩)
 all_goals (as_aux_lemma=>kernel_rfl)
theorem said:Rows.FnPlanSaid :=
 OpenClaim.holds_of_cond 3 Tryz.f3 rfl rfl rfl rfl rfl rfl rfl ⟨rfl,rfl,rfl,rfl,rfl⟩ rfl rfl rfl rfl rfl (by kernel_rfl) Tryz.func3 ybcd
  (of_decide_eq_true (by kernel_rfl)) (by unfold Func.isWrapper;first | (rw[if_pos (by decide +kernel)];kernel_rfl) | (rw[if_neg (by decide +kernel)];exact⟨rfl,rfl⟩))
  (fun os started H enc _ F=>by rw[OpenClaim.pre_eq_preRow];exact ybcu os started H enc F)
theorem plain(f:FuncId)(fn:Func)(hf:Tryz.pinned.checked.prog.funcNamed "loop.example/g00410/laws.FnPlan" = some f)(hfn:Tryz.pinned.checked.prog.funcs[f]?=some fn) :
  false=Tryz.pinned.checked.prog.looks []/\∀ (j:Nat) t,fn.params[j]?=some t->Tryz.pinned.checked.prog.wantsStandIn t=false:=by
 obtain rfl:f=3:=Option.some.inj ((show Tryz.prog.funcNamed "loop.example/g00410/laws.FnPlan" = some 3 by kernel_rfl).symm.trans hf) |>.symm
 obtain rfl:fn=Tryz.f3:=(Option.some.inj (Tryz.func3.symm.trans hfn)).symm;refine⟨by kernel_rfl,fun j t ht=>?_⟩;rw[Tryz.params3]at ht;have hm:=Array.mem_of_getElem? ht;simp at hm;subst hm;exact(show Tryz.prog.wantsStandIn 22=false by kernel_rfl)
end Go.Proofs.YtogcbbkhnpmgeaaGreatDoor.fnPlan
namespace Go.Proofs.YtogcbbkhnpmgeaaGreatDoor
theorem fnPlan_holds:Rows.FnPlanCardSaid :=
 Claim7.holds_tied_plain_at .later [] _ _ _ _ fnPlan.said (fun _ h=>by cases h) (by kernel_rfl) (fun _ h=>by cases h) fnPlan_row_tie rfl ⟨rfl,rfl⟩ (by kernel_rfl) rfl fnPlan.plain (by kernel_rfl)
#print axioms fnPlan_holds
end Go.Proofs.YtogcbbkhnpmgeaaGreatDoor
