/- impl.NewModel answers as its model spec.NewModel does, and its answer owns its memory; no condition but that the listed variables are as the program lays them (the card ties them). -/
import Derived.Test.YtihmihkhkmadmaaDoorLawNewModel
import Derived.Test.YtihmihkhkmadmaaDoorZBX
import Derived.Test.YtihmihkhkmadmaaDoorCards
import Derived.Test.YtihmihkhkmadmaaDoorTie
import Derived.ProofKit
import Derived.OpenShut
import Derived.ShutString
import Derived.ChangeOld
import Derived.Deep.DeepHandedRow
import Derived.Lib.LaidTab
namespace Go.Proofs.YtihmihkhkmadmaaDoor.fnExactNewModel
open Go.ChangeShapes Go.WideShapes Go.ChangeAt Go.RowKit Go.Joins
open Go.ChangeMaps (open_string shut_string)
theorem g_emptyDir : Tryd.prog.globalNamed "loop.example/g00410/impl.emptyDir" = some 0 := by kernel_rfl
theorem t_emptyDir : (Tryd.prog.globals[0]?).map (·.type) = some 74 := by kernel_rfl
theorem v_emptyDir {W : World} {g : Nat} {t : TypeId} {cs : Array Value} {fuel : Nat} {p : List MemPlace} (hg : Tryd.prog.globalNamed "loop.example/g00410/impl.emptyDir" = some g) (ht : (Tryd.prog.globals[g]?).map (·.type) = some t) (hvar : W.var? Tryd.prog "loop.example/g00410/impl.emptyDir" = some cs)
    (hd : DataW.trod (fun _ => ()) Tryd.prog W 0 (fun _ => true) false fuel t cs.toList = some (Rows.laid_loop_example_g00410_impl_emptyDir, p)) : ED W := by
  obtain rfl := Option.some.inj (g_emptyDir.symm.trans hg)
  obtain rfl := Option.some.inj (t_emptyDir.symm.trans ht)
  have e : cs.toList = [.int .i64 2, .int .i64 0, .int .i64 1, .int .i64 0, .int .i64 0, .int .i64 0, .int .i64 0, .int .i64 0, .int .i64 0, .int .i64 0, .int .i64 0] := cells_ed hd
  simp only [World.var?, g_emptyDir, Option.bind_some] at hvar
  split at hvar
  · rename_i cs' t fr hh
    obtain rfl := Option.some.inj hvar
    refine ⟨t, fr, ?_⟩
    rw [hh]
    cases cs' with
    | mk l => simp only at e; rw [e]
  · cases hvar
theorem g_tierSizes : Tryd.prog.globalNamed "loop.example/g00410/impl.tierSizes" = some 3 := by kernel_rfl
theorem t_tierSizes : (Tryd.prog.globals[3]?).map (·.type) = some 150 := by kernel_rfl
theorem v_tierSizes {W : World} {g : Nat} {t : TypeId} {cs : Array Value} {fuel : Nat} {p : List MemPlace} (hg : Tryd.prog.globalNamed "loop.example/g00410/impl.tierSizes" = some g) (ht : (Tryd.prog.globals[g]?).map (·.type) = some t) (hvar : W.var? Tryd.prog "loop.example/g00410/impl.tierSizes" = some cs)
    (hd : DataW.trod (fun _ => ()) Tryd.prog W 0 (fun _ => true) false fuel t cs.toList = some (Rows.laid_loop_example_g00410_impl_tierSizes, p)) : TS W := by
  obtain rfl := Option.some.inj (g_tierSizes.symm.trans hg)
  obtain rfl := Option.some.inj (t_tierSizes.symm.trans ht)
  have e : cs.toList = [.int .i64 1, .int .i64 24, .int .i64 32] := cells_ts hd
  simp only [World.var?, g_tierSizes, Option.bind_some] at hvar
  split at hvar
  · rename_i cs' t fr hh
    obtain rfl := Option.some.inj hvar
    refine ⟨t, fr, ?_⟩
    rw [hh]
    cases cs' with
    | mk l => simp only at e; rw [e]
  · cases hvar
theorem g_freeDirent : Tryd.prog.globalNamed "loop.example/g00410/impl.freeDirent" = some 1 := by kernel_rfl
theorem t_freeDirent : (Tryd.prog.globals[1]?).map (·.type) = some 69 := by kernel_rfl
theorem v_freeDirent {W : World} {g : Nat} {t : TypeId} {cs : Array Value} {fuel : Nat} {p : List MemPlace} (hg : Tryd.prog.globalNamed "loop.example/g00410/impl.freeDirent" = some g) (ht : (Tryd.prog.globals[g]?).map (·.type) = some t) (hvar : W.var? Tryd.prog "loop.example/g00410/impl.freeDirent" = some cs)
    (hd : DataW.trod (fun _ => ()) Tryd.prog W 0 (fun _ => true) false fuel t cs.toList = some (Rows.laid_loop_example_g00410_impl_freeDirent, p)) : FD W := by
  obtain rfl := Option.some.inj (g_freeDirent.symm.trans hg)
  obtain rfl := Option.some.inj (t_freeDirent.symm.trans ht)
  have e : cs.toList = [.int .i64 0, .string ⟨#[]⟩, .int .i64 (-1)] := cells_fd hd
  simp only [World.var?, g_freeDirent, Option.bind_some] at hvar
  split at hvar
  · rename_i cs' t fr hh
    obtain rfl := Option.some.inj hvar
    refine ⟨t, fr, ?_⟩
    rw [hh]
    cases cs' with
    | mk l => simp only at e; rw [e]
  · cases hvar
theorem g_noWrite : Tryd.prog.globalNamed "loop.example/g00410/impl.noWrite" = some 2 := by kernel_rfl
theorem t_noWrite : (Tryd.prog.globals[2]?).map (·.type) = some 122 := by kernel_rfl
theorem v_noWrite {W : World} {g : Nat} {t : TypeId} {cs : Array Value} {fuel : Nat} {p : List MemPlace} (hg : Tryd.prog.globalNamed "loop.example/g00410/impl.noWrite" = some g) (ht : (Tryd.prog.globals[g]?).map (·.type) = some t) (hvar : W.var? Tryd.prog "loop.example/g00410/impl.noWrite" = some cs)
    (hd : DataW.trod (fun _ => ()) Tryd.prog W 0 (fun _ => true) false fuel t cs.toList = some (Rows.laid_loop_example_g00410_impl_noWrite, p)) : NW W := by
  obtain rfl := Option.some.inj (g_noWrite.symm.trans hg)
  obtain rfl := Option.some.inj (t_noWrite.symm.trans ht)
  have e : cs.toList = [.int .i64 (-1), .int .i64 0] := cells_nw hd
  simp only [World.var?, g_noWrite, Option.bind_some] at hvar
  split at hvar
  · rename_i cs' t fr hh
    obtain rfl := Option.some.inj hvar
    refine ⟨t, fr, ?_⟩
    rw [hh]
    cases cs' with
    | mk l => simp only at e; rw [e]
  · cases hvar
theorem nw {W : World} (h : laidMetH Tryd.prog Rows.fnExactNewModelRow.laid W) : ED W ∧ TS W ∧ FD W ∧ NW W := by
  obtain ⟨ps, ⟨g0, t0, c0, f0, p0, q0, hg0, ht0, hv0, hd0, ⟨g1, t1, c1, f1, p1, q1, hg1, ht1, hv1, hd1, ⟨g2, t2, c2, f2, p2, q2, hg2, ht2, hv2, hd2, ⟨g3, t3, c3, f3, p3, q3, hg3, ht3, hv3, hd3, _, _⟩, _⟩, _⟩, _⟩, _⟩ := h
  exact ⟨v_emptyDir hg2 ht2 hv2 hd2, v_tierSizes hg1 ht1 hv1 hd1, v_freeDirent hg3 ht3 hv3 hd3, v_noWrite hg0 ht0 hv0 hd0⟩
theorem lt_var {P : Program} {W : World} {n : String} {g : Nat} {cs : Array Value} (hg : P.globalNamed n = some g) (h : W.var? P n = some cs) : g < W.heap.size := by
  simp only [World.var?, hg, Option.bind_some] at h
  split at h
  · rename_i hh; exact (Array.getElem?_eq_some_iff.1 hh).1
  · cases h
theorem trodVars_cons {H : Type} {enc : TypeId × Value → H} {P : Program} {w : World} {spare : Nat → Bool} {n : String} {ns : List String} {gs : List (DataW H)} {ps : List MemPlace} (h : DataW.TrodVars enc P w spare (n :: ns) gs ps) :
    ∃ g t cs fuel d p q ds, gs = d :: ds ∧ P.globalNamed n = some g ∧ (P.globals[g]?).map (·.type) = some t ∧ w.var? P n = some cs ∧ DataW.trod enc P w 0 spare true fuel t cs.toList = some (d, p) ∧ DataW.TrodVars enc P w spare ns ds q := by
  cases gs with
  | nil => simp [DataW.TrodVars] at h
  | cons d ds =>
    obtain ⟨g, t, cs, fuel, p, q, h1, h2, h3, h4, hs, e⟩ := h
    exact ⟨g, t, cs, fuel, d, p, q, ds, rfl, h1, h2, h3, h4, hs⟩
set_option maxRecDepth 100000 in
theorem contract (H : Type) (enc : TypeId × Value → H) (W : World) (base : Nat) (args : Array Value) (ds gs : List (DataW H)) (before : List MemPlace)
    (hval : ∀ (j : Nat) t v, Tryd.f3.params[j]? = some t → args[j]? = some v → Value.okWide Tryd.prog W .any base t v)
    (hW : DataW.Whole enc Tryd.prog Tryd.f3.params.toList Rows.fnExactNewModelSpec.vars false W args.toList ds gs before) (hL : laidMetH Tryd.prog Rows.fnExactNewModelRow.laid W) :
    Calls Tryd.prog 3 args W fun e W' => ∃ v, e = .returned v ∧ Rows.fnExactNewModelSpec.post enc Tryd.prog Tryd.f3 false true false false W args v W' := by
  obtain ⟨hED, hTS, hFD, hNW⟩ := nw hL
  have hW' := hW
  obtain ⟨p, q, hA0, hV, rfl, hfz, hnd⟩ := hW
  have hA : DataW.TrodAll enc Tryd.prog W 0 (fun _ => true) true Tryd.f3.params.toList args.toList ds p := hA0
  rw [Tryd.params3] at hA hval
  obtain ⟨hargs, rfl, rfl⟩ := trodAll_nil hA
  obtain rfl : args = #[] := by cases args; simp_all
  clear hA0
  refine (newModel_law W hTS hED hFD hNW).mono fun e W' ⟨he, bel⟩ => ?_
  subst he
  obtain ⟨g0, t0, cs0, fu0, dd0, pp0, qq0, ds0v, rfl, hg0, hty0, hvar0, hd0, hV0⟩ := trodVars_cons hV
  obtain rfl := Option.some.inj (g_emptyDir.symm.trans hg0)
  obtain rfl := Option.some.inj (t_emptyDir.symm.trans hty0)
  have kd0 : DataW.Trod enc Tryd.prog W 0 (fun _ => true) true 74 (.agg cs0) dd0 pp0 := ⟨fu0, hd0⟩
  have ltd0 : ∀ x ∈ pp0, x.block < W.heap.size := DataW.trod_lt fu0 _ _ _ hd0
  obtain ⟨fe0, he0⟩ := Below.trod laidOut (by kernel_rfl) (of_decide_eq_true (by kernel_rfl)) kd0 bel ltd0
  obtain ⟨g1, t1, cs1, fu1, dd1, pp1, qq1, ds1v, rfl, hg1, hty1, hvar1, hd1, hV1⟩ := trodVars_cons hV0
  obtain rfl := Option.some.inj (g_tierSizes.symm.trans hg1)
  obtain rfl := Option.some.inj (t_tierSizes.symm.trans hty1)
  have kd1 : DataW.Trod enc Tryd.prog W 0 (fun _ => true) true 150 (.agg cs1) dd1 pp1 := ⟨fu1, hd1⟩
  have ltd1 : ∀ x ∈ pp1, x.block < W.heap.size := DataW.trod_lt fu1 _ _ _ hd1
  obtain ⟨fe1, he1⟩ := Below.trod laidOut (by kernel_rfl) (of_decide_eq_true (by kernel_rfl)) kd1 bel ltd1
  obtain ⟨g2, t2, cs2, fu2, dd2, pp2, qq2, ds2v, rfl, hg2, hty2, hvar2, hd2, hV2⟩ := trodVars_cons hV1
  obtain rfl := Option.some.inj (g_freeDirent.symm.trans hg2)
  obtain rfl := Option.some.inj (t_freeDirent.symm.trans hty2)
  have kd2 : DataW.Trod enc Tryd.prog W 0 (fun _ => true) true 69 (.agg cs2) dd2 pp2 := ⟨fu2, hd2⟩
  have ltd2 : ∀ x ∈ pp2, x.block < W.heap.size := DataW.trod_lt fu2 _ _ _ hd2
  obtain ⟨fe2, he2⟩ := Below.trod laidOut (by kernel_rfl) (of_decide_eq_true (by kernel_rfl)) kd2 bel ltd2
  obtain ⟨g3, t3, cs3, fu3, dd3, pp3, qq3, ds3v, rfl, hg3, hty3, hvar3, hd3, hV3⟩ := trodVars_cons hV2
  obtain rfl := Option.some.inj (g_noWrite.symm.trans hg3)
  obtain rfl := Option.some.inj (t_noWrite.symm.trans hty3)
  have kd3 : DataW.Trod enc Tryd.prog W 0 (fun _ => true) true 122 (.agg cs3) dd3 pp3 := ⟨fu3, hd3⟩
  have ltd3 : ∀ x ∈ pp3, x.block < W.heap.size := DataW.trod_lt fu3 _ _ _ hd3
  obtain ⟨fe3, he3⟩ := Below.trod laidOut (by kernel_rfl) (of_decide_eq_true (by kernel_rfl)) kd3 bel ltd3
  obtain ⟨rfl, rfl⟩ := trodVars_none hV3
  exact ⟨_, rfl, _, _, _, [], _, _, hW', trodAll_mk1 (shut_bool Tryd.underlying4 _), trodAll_mk0,
    ⟨_, _, _, fe0, _, _, g_emptyDir, t_emptyDir, var?_below bel g_emptyDir (lt_var g_emptyDir hvar0) hvar0, he0, ⟨_, _, _, fe1, _, _, g_tierSizes, t_tierSizes, var?_below bel g_tierSizes (lt_var g_tierSizes hvar1) hvar1, he1, ⟨_, _, _, fe2, _, _, g_freeDirent, t_freeDirent, var?_below bel g_freeDirent (lt_var g_freeDirent hvar2) hvar2, he2, ⟨_, _, _, fe3, _, _, g_noWrite, t_noWrite, var?_below bel g_noWrite (lt_var g_noWrite hvar3) hvar3, he3, rfl, rfl⟩, rfl⟩, rfl⟩, rfl⟩, bel.frame _, fun h => by cases h⟩
noncomputable def laidWorld (os : Os) : World :=
  { World.holding Tryd.prog os ⟨#[], #[], []⟩ with heap := (((((World.holding Tryd.prog os ⟨#[], #[], []⟩).heap.modify 2 fun | .cells _ t frozen => .cells #[.int .i64 (-1), .int .i64 0] t frozen | o => o).modify 3 fun | .cells _ t frozen => .cells #[.int .i64 1, .int .i64 24, .int .i64 32] t frozen | o => o).modify 0 fun | .cells _ t frozen => .cells #[.int .i64 2, .int .i64 0, .int .i64 1, .int .i64 0, .int .i64 0, .int .i64 0, .int .i64 0, .int .i64 0, .int .i64 0, .int .i64 0, .int .i64 0] t frozen | o => o).modify 1 fun | .cells _ t frozen => .cells #[.int .i64 0, .string ⟨#[]⟩, .int .i64 (-1)] t frozen | o => o) }
theorem laid_met (os : Os) : laidMet Tryd.prog Rows.fnExactNewModelRow.laid ((laidWorld os).forCall (fun _ _ => 0) ⟨#[], #[], []⟩).memory :=
  laidMet_of_run' 8 (by kernel_rfl) (by kernel_rfl)
theorem reads (os : Os) {H : Type} (enc : TypeId × Value → H) : ∃ x, DataW.whole enc Tryd.prog ((laidWorld os).forCall (fun _ _ => 0) ⟨#[], #[], []⟩).memory Tryd.f3.params.toList Rows.fnExactNewModelSpec.vars false (#[] : Array Value).toList 8 = some x :=
  Option.isSome_iff_exists.1 (by kernel_rfl)
set_option maxRecDepth 100000 in
theorem lifted (os : Os) (started : os.Started) (H : Type) (enc : TypeId × Value → H) (F : Stop.Interp) :
    ReturnsInHanded {} Tryd.checked os 3 .any ((OpenSpec.ofChange Rows.fnExactNewModelSpec).preRow enc Tryd.prog Tryd.f3 Rows.fnExactNewModelRow.domain false Rows.fnExactNewModelRow.laid) (((OpenSpec.ofChange Rows.fnExactNewModelSpec).at F).post enc Tryd.prog Tryd.f3 false true false false) := by
  obtain ⟨x, hx⟩ := reads os enc
  refine returnsInHanded_of_row (C := Tryd.checked) (s := OpenSpec.ofChange Rows.fnExactNewModelSpec) own started (by kernel_rfl) Tryd.func3
    (witness_row_at (enc := enc) (C := Tryd.checked) false (laidWorld os) #[] rfl (by kernel_rfl) (by kernel_rfl) (by kernel_rfl)
      (OpenSpec.preRow_of_cond 8 hx rfl (fun k hk => by cases hk) (by kernel_rfl) (laid_met os))) ?_
  intro W base args ds gs before hval hW _ _ _ hL _ _
  exact contract H enc W base args ds gs before hval hW hL
theorem said : Rows.FnExactNewModelSaid :=
  OpenClaim.holds_of_cond 3 Tryd.f3 rfl rfl rfl rfl rfl rfl rfl ⟨rfl, rfl, rfl, rfl, rfl⟩ rfl rfl rfl rfl rfl (by kernel_rfl) Tryd.func3 (by kernel_rfl)
    (of_decide_eq_true (by kernel_rfl)) (by unfold Func.isWrapper; first | (rw [if_pos (by decide +kernel)]; kernel_rfl) | (rw [if_neg (by decide +kernel)]; exact ⟨rfl, rfl⟩))
    (fun os started H enc _ F => by rw [OpenClaim.pre_eq_preRow]; exact lifted os started H enc F)
theorem plain (f : FuncId) (fn : Func) (hf : Tryd.pinned.checked.prog.funcNamed "loop.example/g00410/laws.FnExactNewModel" = some f) (hfn : Tryd.pinned.checked.prog.funcs[f]? = some fn) :
    false = Tryd.pinned.checked.prog.looks [] ∧ ∀ (j : Nat) t, fn.params[j]? = some t → Tryd.pinned.checked.prog.wantsStandIn t = false := by
  obtain rfl : f = 3 := Option.some.inj ((show Tryd.prog.funcNamed "loop.example/g00410/laws.FnExactNewModel" = some 3 by kernel_rfl).symm.trans hf) |>.symm
  obtain rfl : fn = Tryd.f3 := (Option.some.inj (Tryd.func3.symm.trans hfn)).symm
  refine ⟨by kernel_rfl, fun j t ht => ?_⟩
  rw [Tryd.params3] at ht
  have hm := Array.mem_of_getElem? ht
  simp at hm
end Go.Proofs.YtihmihkhkmadmaaDoor.fnExactNewModel
namespace Go.Proofs.YtihmihkhkmadmaaDoor
theorem newModel : Rows.FnExactNewModelCardSaid :=
  Claim7.holds_tied_plain_at .later [] _ _ _ _ fnExactNewModel.said (fun _ h => by cases h) (by kernel_rfl) (fun _ h => by cases h) fnExactNewModel_row_tie rfl ⟨rfl, rfl⟩ (by kernel_rfl) rfl fnExactNewModel.plain (by kernel_rfl)
#print axioms newModel
end Go.Proofs.YtihmihkhkmadmaaDoor
