/- At all file systems, all keeps of both crashes and all numbers of steps impl.CrashTwice answers as its model spec.CrashTwice does, nothing that was handed in is changed, and the answer owns its memory; no condition but that the listed variables and tables are as the program lays them. -/
import Derived.Test.YtahiphgmhndgaaaGreatDoorLawCrashTwiceB
import Derived.Test.YtahiphgmhndgaaaGreatDoorZBQ
import Derived.Test.YtahiphgmhndgaaaGreatDoorCards
import Derived.Test.YtahiphgmhndgaaaGreatDoorTie
import Derived.ProofKit
import Derived.OpenShut
import Derived.ShutString
import Derived.ChangeOld
import Derived.Deep.DeepHandedRow
import Derived.Lib.LaidTab
set_option maxRecDepth 100000
set_option maxHeartbeats 40000000
namespace Go.Proofs.YtahiphgmhndgaaaGreatDoor.fnExactCrashTwice
open Go.ChangeShapes Go.WideShapes Go.ChangeAt Go.RowKit Go.Joins
open Go.ChangeMaps (open_string shut_string)
theorem zdq:Tryz.prog.globalNamed "loop.example/g00410/impl.stepBounds" = some 1:=by kernel_rfl
theorem zig:(Tryz.prog.globals[1]?).map (·.type)=some 177:=by kernel_rfl
theorem zzj {W:World} {g:Nat} {t:TypeId} {cs:Array Value} {fuel:Nat} {p:List MemPlace} (hg:Tryz.prog.globalNamed "loop.example/g00410/impl.stepBounds" = some g) (ht:(Tryz.prog.globals[g]?).map (·.type)=some t) (hvar:W.var? Tryz.prog "loop.example/g00410/impl.stepBounds" = some cs)
  (hd:DataW.trod (fun _=>()) Tryz.prog W 0 (fun _=>true) false fuel t cs.toList=some (Rows.laid_loop_example_g00410_impl_stepBounds,p)):SB W:=by
 obtain rfl:=Option.some.inj (zdq.symm.trans hg);obtain rfl:=Option.some.inj (zig.symm.trans ht);have e:cs.toList=[.int .i64 0,.int .i64 0,.int .i64 336,.int .i64 1099511627776,.int .i64 336,.int .i64 1,.int .i64 1,.int .i64 1,.int .i64 32,.int .i64 1099511627776,.int .i64 1,.int .i64 1]:=yanp (zs:=[(0,0),(336,1099511627776),(336,1),(1,1),(32,1099511627776),(1,1)]) rfl hd;simp only[World.var?,zdq,Option.bind_some] at hvar
 split at hvar
 ·rename_i cs' t fr hh;obtain rfl:=Option.some.inj hvar;refine ⟨t,fr,?_⟩;rw[hh]
  cases cs' with
  | mk l=>simp only at e;rw[e]
 ·cases hvar
theorem zdp:Tryz.prog.globalNamed "loop.example/g00410/impl.freeDirent" = some 2:=by kernel_rfl
theorem zhi:(Tryz.prog.globals[2]?).map (·.type)=some 189:=by kernel_rfl
theorem zyy {W:World} {g:Nat} {t:TypeId} {cs:Array Value} {fuel:Nat} {p:List MemPlace} (hg:Tryz.prog.globalNamed "loop.example/g00410/impl.freeDirent" = some g) (ht:(Tryz.prog.globals[g]?).map (·.type)=some t) (hvar:W.var? Tryz.prog "loop.example/g00410/impl.freeDirent" = some cs)
  (hd:DataW.trod (fun _=>()) Tryz.prog W 0 (fun _=>true) false fuel t cs.toList=some (Rows.laid_loop_example_g00410_impl_freeDirent,p)):FD W:=by
 obtain rfl:=Option.some.inj (zdp.symm.trans hg);obtain rfl:=Option.some.inj (zhi.symm.trans ht);have e:cs.toList=[.int .i64 0,.string ⟨#[]⟩,.int .i64 (-1)]:=yapq hd;simp only[World.var?,zdp,Option.bind_some] at hvar
 split at hvar
 ·rename_i cs' t fr hh;obtain rfl:=Option.some.inj hvar;refine ⟨t,fr,?_⟩;rw[hh]
  cases cs' with
  | mk l=>simp only at e;rw[e]
 ·cases hvar
theorem zfm:Tryz.prog.globalNamed "loop.example/g00410/impl.emptyDir" = some 3:=by kernel_rfl
theorem zlj:(Tryz.prog.globals[3]?).map (·.type)=some 187:=by kernel_rfl
theorem yafq {W:World} {g:Nat} {t:TypeId} {cs:Array Value} {fuel:Nat} {p:List MemPlace} (hg:Tryz.prog.globalNamed "loop.example/g00410/impl.emptyDir" = some g) (ht:(Tryz.prog.globals[g]?).map (·.type)=some t) (hvar:W.var? Tryz.prog "loop.example/g00410/impl.emptyDir" = some cs)
  (hd:DataW.trod (fun _=>()) Tryz.prog W 0 (fun _=>true) false fuel t cs.toList=some (Rows.laid_loop_example_g00410_impl_emptyDir,p)):ED W:=by
 obtain rfl:=Option.some.inj (zfm.symm.trans hg);obtain rfl:=Option.some.inj (zlj.symm.trans ht);have e:cs.toList=[.int .i64 2,.int .i64 0,.int .i64 1,.int .i64 0,.int .i64 0,.int .i64 0,.int .i64 0,.int .i64 0,.int .i64 0,.int .i64 0,.int .i64 0]:=yams hd;simp only[World.var?,zfm,Option.bind_some] at hvar
 split at hvar
 ·rename_i cs' t fr hh;obtain rfl:=Option.some.inj hvar;refine ⟨t,fr,?_⟩;rw[hh]
  cases cs' with
  | mk l=>simp only at e;rw[e]
 ·cases hvar
theorem zej:Tryz.prog.globalNamed "loop.example/g00410/impl.tierSizes" = some 4:=by kernel_rfl
theorem zjs:(Tryz.prog.globals[4]?).map (·.type)=some 248:=by kernel_rfl
theorem yaav {W:World} {g:Nat} {t:TypeId} {cs:Array Value} {fuel:Nat} {p:List MemPlace} (hg:Tryz.prog.globalNamed "loop.example/g00410/impl.tierSizes" = some g) (ht:(Tryz.prog.globals[g]?).map (·.type)=some t) (hvar:W.var? Tryz.prog "loop.example/g00410/impl.tierSizes" = some cs)
  (hd:DataW.trod (fun _=>()) Tryz.prog W 0 (fun _=>true) false fuel t cs.toList=some (Rows.laid_loop_example_g00410_impl_tierSizes,p)):TS W:=by
 obtain rfl:=Option.some.inj (zej.symm.trans hg);obtain rfl:=Option.some.inj (zjs.symm.trans ht);have e:cs.toList=[.int .i64 1,.int .i64 24,.int .i64 32]:=yaod hd;simp only[World.var?,zej,Option.bind_some] at hvar
 split at hvar
 ·rename_i cs' t fr hh;obtain rfl:=Option.some.inj hvar;refine ⟨t,fr,?_⟩;rw[hh]
  cases cs' with
  | mk l=>simp only at e;rw[e]
 ·cases hvar
theorem zgh:Tryz.prog.globalNamed "loop.example/g00410/impl.noWrite" = some 0:=by kernel_rfl
theorem zpj:(Tryz.prog.globals[0]?).map (·.type)=some 150:=by kernel_rfl
theorem yakv {W:World} {g:Nat} {t:TypeId} {cs:Array Value} {fuel:Nat} {p:List MemPlace} (hg:Tryz.prog.globalNamed "loop.example/g00410/impl.noWrite" = some g) (ht:(Tryz.prog.globals[g]?).map (·.type)=some t) (hvar:W.var? Tryz.prog "loop.example/g00410/impl.noWrite" = some cs)
  (hd:DataW.trod (fun _=>()) Tryz.prog W 0 (fun _=>true) false fuel t cs.toList=some (Rows.laid_loop_example_g00410_impl_noWrite,p)):NW W:=by
 obtain rfl:=Option.some.inj (zgh.symm.trans hg);obtain rfl:=Option.some.inj (zpj.symm.trans ht);have e:cs.toList=[.int .i64 (-1),.int .i64 0]:=yaom hd;simp only[World.var?,zgh,Option.bind_some] at hvar
 split at hvar
 ·rename_i cs' t fr hh;obtain rfl:=Option.some.inj hvar;refine ⟨t,fr,?_⟩;rw[hh]
  cases cs' with
  | mk l=>simp only at e;rw[e]
 ·cases hvar
theorem nw {W:World} (h:laidMetH Tryz.prog Rows.fnExactCrashTwiceRow.laid W):SB W∧FD W∧ED W∧TS W∧NW W:=by
 obtain ⟨ps,⟨g0,t0,c0,f0,p0,q0,hg0,ht0,hv0,hd0,⟨g1,t1,c1,f1,p1,q1,hg1,ht1,hv1,hd1,⟨g2,t2,c2,f2,p2,q2,hg2,ht2,hv2,hd2,⟨g3,t3,c3,f3,p3,q3,hg3,ht3,hv3,hd3,⟨g4,t4,c4,f4,p4,q4,hg4,ht4,hv4,hd4,_,_⟩,_⟩,_⟩,_⟩,_⟩,_⟩:=h;exact ⟨zzj hg2 ht2 hv2 hd2,zyy hg4 ht4 hv4 hd4,yafq hg3 ht3 hv3 hd3,yaav hg1 ht1 hv1 hd1,yakv hg0 ht0 hv0 hd0⟩
theorem zzd {P:Program} {W:World} {n:String} {g:Nat} {cs:Array Value} (hg:P.globalNamed n=some g) (h:W.var? P n=some cs):g < W.heap.size:=by
 simp only[World.var?,hg,Option.bind_some] at h
 split at h
 ·rename_i hh;exact (Array.getElem?_eq_some_iff.1 hh).1
 ·cases h
theorem zdr {H:Type} {enc:TypeId×Value→H} {P:Program} {w:World} {spare:Nat→Bool} {n:String} {ns:List String} {gs:List (DataW H)} {ps:List MemPlace} (h:DataW.TrodVars enc P w spare (n :: ns) gs ps) :
  ∃ g t cs fuel d p q ds,gs=d :: ds∧P.globalNamed n=some g∧(P.globals[g]?).map (·.type)=some t∧w.var? P n=some cs∧DataW.trod enc P w 0 spare true fuel t cs.toList=some (d,p)∧DataW.TrodVars enc P w spare ns ds q:=by
 cases gs with
 | nil=>simp[DataW.TrodVars] at h
 | cons d ds =>
  obtain ⟨g,t,cs,fuel,p,q,h1,h2,h3,h4,hs,e⟩:=h;exact ⟨g,t,cs,fuel,d,p,q,ds,rfl,h1,h2,h3,h4,hs⟩
theorem contract (H:Type) (enc:TypeId×Value→H) (W:World) (base:Nat) (args:Array Value) (ds gs:List (DataW H)) (before:List MemPlace)
  (hval:∀ (j:Nat) t v,Tryz.f4.params[j]?=some t→args[j]?=some v→Value.okWide Tryz.prog W .any base t v)
  (hW:DataW.Whole enc Tryz.prog Tryz.f4.params.toList Rows.fnExactCrashTwiceSpec.vars false W args.toList ds gs before) (hL:laidMetH Tryz.prog Rows.fnExactCrashTwiceRow.laid W) :
  Calls Tryz.prog 4 args W fun e W'=>∃ v,e=.returned v∧Rows.fnExactCrashTwiceSpec.post enc Tryz.prog Tryz.f4 false true false false W args v W':=by
 obtain ⟨hSB,hFD,hED,hTS,hNW⟩:=nw hL;have hW':=hW;obtain ⟨p,q,hA0,hV,rfl,hfz,hnd⟩:=hW;have hA:DataW.TrodAll enc Tryz.prog W 0 (fun _=>true) true Tryz.f4.params.toList args.toList ds p:=hA0;rw[Tryz.params4] at hA hval;obtain ⟨v0,vs0,d0,ds0,p0,q0,hargs,rfl,rfl,h0,r0⟩:=trodAll_cons hA;obtain ⟨v1,vs1,d1,ds1,p1,q1,rfl,rfl,rfl,h1,r1⟩:=trodAll_cons r0;obtain ⟨v2,vs2,d2,ds2,p2,q2,rfl,rfl,rfl,h2,r2⟩:=trodAll_cons r1;obtain ⟨v3,vs3,d3,ds3,p3,q3,rfl,rfl,rfl,h3,r3⟩:=trodAll_cons r2;obtain ⟨rfl,rfl,rfl⟩:=trodAll_nil r3
 obtain rfl:args=#[v0,v1,v2,v3]:=by cases args;simp_all
 have k0:=h0
 have lt0:∀ x∈p0,x.block < W.heap.size:=by obtain ⟨m,hm⟩:=k0;exact DataW.trod_lt m _ _ _ hm
 obtain ⟨ws0,ps0,es0,qs0,hs0,td0,cd0,vl0,nm0,fr0,hF0,hB0,hZ0⟩:=yark (hval 0 36 v0 rfl rfl) h0;have k1:=h1
 have lt1:∀ x∈p1,x.block < W.heap.size:=by obtain ⟨m,hm⟩:=k1;exact DataW.trod_lt m _ _ _ hm
 obtain ⟨z1,hz1,hl1,_⟩:∃ zs:List Int,RdI W v1 zs∧zs.length≤maxLen∧True:=by
  obtain ⟨ao,len,cap,rfl⟩:=okWide_slice Tryz.underlying22 (hval 1 22 v1 rfl rfl);obtain ⟨fuel,hf⟩:=h1;obtain ⟨zs,h1,h2,_⟩:=zkv hf;exact ⟨zs,h1,h2,trivial⟩
 obtain ⟨a2,rfl,rfl,rfl,w2⟩:=open_int Tryz.underlying3 (hval 2 3 v2 rfl rfl) h2;have k3:=h3
 have lt3:∀ x∈p3,x.block < W.heap.size:=by obtain ⟨m,hm⟩:=k3;exact DataW.trod_lt m _ _ _ hm
 obtain ⟨z3,hz3,hl3,_⟩:∃ zs:List Int,RdI W v3 zs∧zs.length≤maxLen∧True:=by
  obtain ⟨ao,len,cap,rfl⟩:=okWide_slice Tryz.underlying22 (hval 3 22 v3 rfl rfl);obtain ⟨fuel,hf⟩:=h3;obtain ⟨zs,h1,h2,_⟩:=zkv hf;exact ⟨zs,h1,h2,trivial⟩
 clear hA0
 refine (znu v0 ws0 ps0 es0 qs0 hs0 td0 cd0 vl0 nm0 fr0 v1 z1 v3 z3 a2 W hF0 hz1 hz3 hB0 hZ0 hSB hTS hED hFD hNW).mono fun e W' ⟨he,bel⟩=>?_
 subst he;obtain ⟨g0,t0,cs0,fu0,dd0,pp0,qq0,ds0v,rfl,hg0,hty0,hvar0,hd0,hV0⟩:=zdr hV;obtain rfl:=Option.some.inj (zdq.symm.trans hg0);obtain rfl:=Option.some.inj (zig.symm.trans hty0)
 have kd0:DataW.Trod enc Tryz.prog W 0 (fun _=>true) true 177 (.agg cs0) dd0 pp0:=⟨fu0,hd0⟩
 have ltd0:∀ x∈pp0,x.block < W.heap.size:=DataW.trod_lt fu0 _ _ _ hd0;obtain ⟨fe0,he0⟩:=Below.trod zia (by kernel_rfl) (of_decide_eq_true (by kernel_rfl)) kd0 bel ltd0;obtain ⟨g1,t1,cs1,fu1,dd1,pp1,qq1,ds1v,rfl,hg1,hty1,hvar1,hd1,hV1⟩:=zdr hV0;obtain rfl:=Option.some.inj (zdp.symm.trans hg1);obtain rfl:=Option.some.inj (zhi.symm.trans hty1)
 have kd1:DataW.Trod enc Tryz.prog W 0 (fun _=>true) true 189 (.agg cs1) dd1 pp1:=⟨fu1,hd1⟩
 have ltd1:∀ x∈pp1,x.block < W.heap.size:=DataW.trod_lt fu1 _ _ _ hd1;obtain ⟨fe1,he1⟩:=Below.trod zia (by kernel_rfl) (of_decide_eq_true (by kernel_rfl)) kd1 bel ltd1;obtain ⟨g2,t2,cs2,fu2,dd2,pp2,qq2,ds2v,rfl,hg2,hty2,hvar2,hd2,hV2⟩:=zdr hV1;obtain rfl:=Option.some.inj (zfm.symm.trans hg2);obtain rfl:=Option.some.inj (zlj.symm.trans hty2)
 have kd2:DataW.Trod enc Tryz.prog W 0 (fun _=>true) true 187 (.agg cs2) dd2 pp2:=⟨fu2,hd2⟩
 have ltd2:∀ x∈pp2,x.block < W.heap.size:=DataW.trod_lt fu2 _ _ _ hd2;obtain ⟨fe2,he2⟩:=Below.trod zia (by kernel_rfl) (of_decide_eq_true (by kernel_rfl)) kd2 bel ltd2;obtain ⟨g3,t3,cs3,fu3,dd3,pp3,qq3,ds3v,rfl,hg3,hty3,hvar3,hd3,hV3⟩:=zdr hV2;obtain rfl:=Option.some.inj (zej.symm.trans hg3);obtain rfl:=Option.some.inj (zjs.symm.trans hty3)
 have kd3:DataW.Trod enc Tryz.prog W 0 (fun _=>true) true 248 (.agg cs3) dd3 pp3:=⟨fu3,hd3⟩
 have ltd3:∀ x∈pp3,x.block < W.heap.size:=DataW.trod_lt fu3 _ _ _ hd3;obtain ⟨fe3,he3⟩:=Below.trod zia (by kernel_rfl) (of_decide_eq_true (by kernel_rfl)) kd3 bel ltd3;obtain ⟨g4,t4,cs4,fu4,dd4,pp4,qq4,ds4v,rfl,hg4,hty4,hvar4,hd4,hV4⟩:=zdr hV3;obtain rfl:=Option.some.inj (zgh.symm.trans hg4);obtain rfl:=Option.some.inj (zpj.symm.trans hty4)
 have kd4:DataW.Trod enc Tryz.prog W 0 (fun _=>true) true 150 (.agg cs4) dd4 pp4:=⟨fu4,hd4⟩
 have ltd4:∀ x∈pp4,x.block < W.heap.size:=DataW.trod_lt fu4 _ _ _ hd4;obtain ⟨fe4,he4⟩:=Below.trod zia (by kernel_rfl) (of_decide_eq_true (by kernel_rfl)) kd4 bel ltd4;obtain ⟨rfl,rfl⟩:=trodVars_none hV4
 exact ⟨_,rfl,_,_,_,[],_,_,hW',trodAll_mk1 (shut_bool Tryz.underlying4 _),(trodAll_cons_mk (Below.trod zia (by kernel_rfl) (of_decide_eq_true (by kernel_rfl)) k0 bel lt0) (trodAll_cons_mk (Below.trod zia (by kernel_rfl) (of_decide_eq_true (by kernel_rfl)) k1 bel lt1) (trodAll_cons_mk (shut_int Tryz.underlying3 w2) (trodAll_cons_mk (Below.trod zia (by kernel_rfl) (of_decide_eq_true (by kernel_rfl)) k3 bel lt3) trodAll_mk0)))),
  ⟨_,_,_,fe0,_,_,zdq,zig,var?_below bel zdq (zzd zdq hvar0) hvar0,he0,⟨_,_,_,fe1,_,_,zdp,zhi,var?_below bel zdp (zzd zdp hvar1) hvar1,he1,⟨_,_,_,fe2,_,_,zfm,zlj,var?_below bel zfm (zzd zfm hvar2) hvar2,he2,⟨_,_,_,fe3,_,_,zej,zjs,var?_below bel zej (zzd zej hvar3) hvar3,he3,⟨_,_,_,fe4,_,_,zgh,zpj,var?_below bel zgh (zzd zgh hvar4) hvar4,he4,rfl,rfl⟩,rfl⟩,rfl⟩,rfl⟩,rfl⟩,bel.frame _,fun h=>by cases h⟩
noncomputable def zqc (os:Os):World :=
 { World.holding Tryz.prog os ⟨#[],#[],[]⟩ with heap:=((((((World.holding Tryz.prog os ⟨#[],#[],[]⟩).heap.modify 0 fun | .cells _ t frozen=>.cells #[.int .i64 (-1),.int .i64 0] t frozen | o=>o).modify 4 fun | .cells _ t frozen=>.cells #[.int .i64 1,.int .i64 24,.int .i64 32] t frozen | o=>o).modify 1 fun | .cells _ t frozen=>.cells #[.int .i64 0,.int .i64 0,.int .i64 336,.int .i64 1099511627776,.int .i64 336,.int .i64 1,.int .i64 1,.int .i64 1,.int .i64 32,.int .i64 1099511627776,.int .i64 1,.int .i64 1] t frozen | o=>o).modify 3 fun | .cells _ t frozen=>.cells #[.int .i64 2,.int .i64 0,.int .i64 1,.int .i64 0,.int .i64 0,.int .i64 0,.int .i64 0,.int .i64 0,.int .i64 0,.int .i64 0,.int .i64 0] t frozen | o=>o).modify 2 fun | .cells _ t frozen=>.cells #[.int .i64 0,.string ⟨#[]⟩,.int .i64 (-1)] t frozen | o=>o) }
theorem yanj (os:Os):laidMet Tryz.prog Rows.fnExactCrashTwiceRow.laid ((zqc os).forCall (fun _ _=>0) ⟨#[],#[.agg #[.slice none 0 0,.slice none 0 0,.slice none 0 0,.slice none 0 0,.slice none 0 0,.slice none 0 0,.int .i64 0,.int .i64 0,.slice none 0 0,.bool false],.slice none 0 0,.int .i64 0,.slice none 0 0],[]⟩).memory :=
 laidMet_of_run' 8 (by kernel_rfl) (by kernel_rfl)
theorem yavy (os:Os) {H:Type} (enc:TypeId×Value→H):∃ x,DataW.whole enc Tryz.prog ((zqc os).forCall (fun _ _=>0) ⟨#[],#[.agg #[.slice none 0 0,.slice none 0 0,.slice none 0 0,.slice none 0 0,.slice none 0 0,.slice none 0 0,.int .i64 0,.int .i64 0,.slice none 0 0,.bool false],.slice none 0 0,.int .i64 0,.slice none 0 0],[]⟩).memory Tryz.f4.params.toList Rows.fnExactCrashTwiceSpec.vars false (#[.agg #[.slice none 0 0,.slice none 0 0,.slice none 0 0,.slice none 0 0,.slice none 0 0,.slice none 0 0,.int .i64 0,.int .i64 0,.slice none 0 0,.bool false],.slice none 0 0,.int .i64 0,.slice none 0 0]:Array Value).toList 8=some x :=
 Option.isSome_iff_exists.1 (by kernel_rfl)
theorem yauk (os:Os) (started:os.Started) (H:Type) (enc:TypeId×Value→H) (F:Stop.Interp) :
  ReturnsInHanded {} Tryz.checked os 4 .any ((OpenSpec.ofChange Rows.fnExactCrashTwiceSpec).preRow enc Tryz.prog Tryz.f4 Rows.fnExactCrashTwiceRow.domain false Rows.fnExactCrashTwiceRow.laid) (((OpenSpec.ofChange Rows.fnExactCrashTwiceSpec).at F).post enc Tryz.prog Tryz.f4 false true false false):=by
 obtain ⟨x,hx⟩:=yavy os enc;refine returnsInHanded_of_row (C:=Tryz.checked) (s:=OpenSpec.ofChange Rows.fnExactCrashTwiceSpec) own started (by kernel_rfl) Tryz.func4
  (witness_row_at (enc:=enc) (C:=Tryz.checked) false (zqc os) #[.agg #[.slice none 0 0,.slice none 0 0,.slice none 0 0,.slice none 0 0,.slice none 0 0,.slice none 0 0,.int .i64 0,.int .i64 0,.slice none 0 0,.bool false],.slice none 0 0,.int .i64 0,.slice none 0 0] rfl (by kernel_rfl) (by kernel_rfl) (by kernel_rfl)
   (OpenSpec.preRow_of_cond 8 hx rfl (fun k hk=>by cases hk) (by kernel_rfl) (yanj os))) ?_
 intro W base args ds gs before hval hW _ _ _ hL _ _;exact contract H enc W base args ds gs before hval hW hL
theorem yauh:joinedFacts Tryz.pinned.checked.prog 4 Tryz.f4 (OpenSpec.ofChange Rows.fnExactCrashTwiceSpec).bare Rows.fnExactCrashTwiceRow=true:=by
 unfold joinedFacts
 repeat' (with_reducible refine (Bool.and_eq_true _ _).mpr ⟨?_,?_⟩)
 all_goals (as_aux_lemma=>kernel_rfl)
theorem said:Rows.FnExactCrashTwiceSaid :=
 OpenClaim.holds_of_cond 4 Tryz.f4 rfl rfl rfl rfl rfl rfl rfl ⟨rfl,rfl,rfl,rfl,rfl⟩ rfl rfl rfl rfl rfl (by kernel_rfl) Tryz.func4 yauh
  (of_decide_eq_true (by kernel_rfl)) (by unfold Func.isWrapper;first | (rw[if_pos (by decide +kernel)];kernel_rfl) | (rw[if_neg (by decide +kernel)];exact ⟨rfl,rfl⟩))
  (fun os started H enc _ F=>by rw[OpenClaim.pre_eq_preRow];exact yauk os started H enc F)
theorem plain (f:FuncId) (fn:Func) (hf:Tryz.pinned.checked.prog.funcNamed "loop.example/g00410/laws.FnExactCrashTwice" = some f) (hfn:Tryz.pinned.checked.prog.funcs[f]?=some fn) :
  false=Tryz.pinned.checked.prog.looks []∧∀ (j:Nat) t,fn.params[j]?=some t→Tryz.pinned.checked.prog.wantsStandIn t=false:=by
 obtain rfl:f=4:=Option.some.inj ((show Tryz.prog.funcNamed "loop.example/g00410/laws.FnExactCrashTwice" = some 4 by kernel_rfl).symm.trans hf) |>.symm
 obtain rfl:fn=Tryz.f4:=(Option.some.inj (Tryz.func4.symm.trans hfn)).symm;refine ⟨by kernel_rfl,fun j t ht=>?_⟩;rw[Tryz.params4] at ht;have hm:=Array.mem_of_getElem? ht;simp at hm
 rcases hm with rfl | rfl | rfl | rfl
 ·exact (show Tryz.prog.wantsStandIn 36=false by kernel_rfl)
 ·exact (show Tryz.prog.wantsStandIn 22=false by kernel_rfl)
 ·exact (show Tryz.prog.wantsStandIn 3=false by kernel_rfl)
 ·exact (show Tryz.prog.wantsStandIn 22=false by kernel_rfl)
end Go.Proofs.YtahiphgmhndgaaaGreatDoor.fnExactCrashTwice
namespace Go.Proofs.YtahiphgmhndgaaaGreatDoor
theorem crashTwice_holds:Rows.FnExactCrashTwiceCardSaid :=
 Claim7.holds_tied_plain_at .later [] _ _ _ _ fnExactCrashTwice.said (fun _ h=>by cases h) (by kernel_rfl) (fun _ h=>by cases h) fnExactCrashTwice_row_tie rfl ⟨rfl,rfl⟩ (by kernel_rfl) rfl fnExactCrashTwice.plain (by kernel_rfl)
#print axioms crashTwice_holds
end Go.Proofs.YtahiphgmhndgaaaGreatDoor
