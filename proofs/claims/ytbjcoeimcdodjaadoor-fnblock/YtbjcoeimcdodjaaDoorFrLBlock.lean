/- At every pair of codes, what is written is read, and behind a barrier it is there behind every crash; with nothing kept a crash leaves the sectors as they were, with all kept what is written last; the crash and the list of what is not sure are as the model tells; no condition. -/
import Derived.Test.YtbjcoeimcdodjaaDoorLawBlock
import Derived.Test.YtbjcoeimcdodjaaDoorZAP
import Derived.Test.YtbjcoeimcdodjaaDoorCards
import Derived.Test.YtbjcoeimcdodjaaDoorTie
import Derived.ProofKit
import Derived.OpenShut
import Derived.ShutString
import Derived.ChangeOld
import Derived.Deep.DeepHandedRow
import Derived.Lib.LaidTab
namespace Go.Proofs.YtbjcoeimcdodjaaDoor.fnBlock
open Go.ChangeShapes Go.WideShapes Go.ChangeAt Go.RowKit Go.Joins
open Go.ChangeMaps (open_string shut_string)
theorem gVar : Tryd.prog.globalNamed "loop.example/g00410/impl.noWrite" = some 0 := by kernel_rfl
theorem gVarType : (Tryd.prog.globals[0]?).map (·.type) = some 59 := by kernel_rfl
theorem cellsVar : Tryd.prog.cellsOf 59 = 2 := by kernel_rfl
theorem cells_nw {H : Type} {enc : TypeId × Value → H} {w : World} {base : Nat} {sp : Nat → Bool} {held : Bool} {fuel : Nat} {cs : List Value} {p : List MemPlace}
    (h : DataW.trod enc Tryd.prog w base sp held fuel 59 cs = some (.agg [.lit (.int .i64 (-1)), .lit (.int .i64 (0))], p)) : cs = [.int .i64 (-1), .int .i64 (0)] := by
  obtain ⟨y0, y1, n, hx, hl, t0, t1⟩ := trod_struct2 Tryd.underlying59 h
  obtain ⟨z0, e0, hy0, _⟩ := DataW.trod_int Tryd.underlying3 t0
  obtain ⟨z1, e1, hy1, _⟩ := DataW.trod_int Tryd.underlying3 t1
  rw [cellsVar] at hl
  subst hy0 hy1
  simp only [cells3] at e0 e1
  match cs, hl with
  | [c0, c1], _ =>
    simp at e0 e1 hx
    subst e0 e1
    rw [hx.1.1, hx.1.2]
theorem nw {W : World} (h : laidMetH Tryd.prog Rows.fnBlockRow.laid W) : NW W := by
  obtain ⟨ps, ⟨g', t', cs, fuel, p, q, hg', ht', hvar, hd, _, _⟩, _⟩ := h
  obtain rfl := Option.some.inj (gVar.symm.trans hg')
  obtain rfl := Option.some.inj (gVarType.symm.trans ht')
  have e := cells_nw hd
  simp only [World.var?, gVar, Option.bind_some] at hvar
  split at hvar
  · rename_i cs' t fr hh
    obtain rfl := Option.some.inj hvar
    refine ⟨t, fr, ?_⟩
    rw [hh]
    cases cs' with
    | mk l => simp only at e; rw [e]
  · cases hvar
set_option maxRecDepth 100000 in
theorem contract (H : Type) (enc : TypeId × Value → H) (W : World) (base : Nat) (args : Array Value) (ds gs : List (DataW H)) (before : List MemPlace)
    (hval : ∀ (j : Nat) t v, Tryd.f3.params[j]? = some t → args[j]? = some v → Value.okWide Tryd.prog W .any base t v)
    (hW : DataW.Whole enc Tryd.prog Tryd.f3.params.toList Rows.fnBlockSpec.vars false W args.toList ds gs before) (hL : laidMetH Tryd.prog Rows.fnBlockRow.laid W) :
    Calls Tryd.prog 3 args W fun e W' => ∃ v, e = .returned v ∧ Rows.fnBlockSpec.post enc Tryd.prog Tryd.f3 false true false false W args v W' := by
  have hG := nw hL
  have hW' := hW
  obtain ⟨p, q, hA0, hV, rfl, hfz, hnd⟩ := hW
  have hA : DataW.TrodAll enc Tryd.prog W 0 (fun _ => true) true Tryd.f3.params.toList args.toList ds p := hA0
  rw [Tryd.params3] at hA hval
  obtain ⟨v0, vs0, d0, ds0, p0, q0, hargs, rfl, rfl, h0, r0⟩ := trodAll_cons hA
  obtain ⟨v1, vs1, d1, ds1, p1, q1, rfl, rfl, rfl, h1, r1⟩ := trodAll_cons r0
  obtain ⟨rfl, rfl, rfl⟩ := trodAll_nil r1
  obtain rfl : args = #[v0, v1] := by cases args; simp_all
  have k0 := h0
  have lt0 : ∀ x ∈ p0, x.block < W.heap.size := by obtain ⟨m, hm⟩ := k0; exact DataW.trod_lt m _ _ _ hm
  obtain ⟨z0, hz0, hl0⟩ : ∃ zs : List Int, RdB W v0 zs ∧ zs.length ≤ maxLen := by
    obtain ⟨ao, len, cap, rfl⟩ := okWide_slice Tryd.underlying22 (hval 0 22 v0 rfl rfl)
    obtain ⟨fuel, hf⟩ := h0
    exact open_RdB hf
  have k1 := h1
  have lt1 : ∀ x ∈ p1, x.block < W.heap.size := by obtain ⟨m, hm⟩ := k1; exact DataW.trod_lt m _ _ _ hm
  obtain ⟨z1, hz1, hl1⟩ : ∃ zs : List Int, RdB W v1 zs ∧ zs.length ≤ maxLen := by
    obtain ⟨ao, len, cap, rfl⟩ := okWide_slice Tryd.underlying22 (hval 1 22 v1 rfl rfl)
    obtain ⟨fuel, hf⟩ := h1
    exact open_RdB hf
  clear hA0
  refine (fnBlock_law _ _ z0 z1 W hz0 hz1 hG hl0 hl1).mono fun e W' ⟨he, bel⟩ => ?_
  subst he
  obtain ⟨g, t, cs, fuel, d, p, rfl, hg, hty, hvar, hd, rfl⟩ := trodVars_one hV
  obtain rfl := Option.some.inj (gVar.symm.trans hg)
  obtain rfl := Option.some.inj (gVarType.symm.trans hty)
  have kd : DataW.Trod enc Tryd.prog W 0 (fun _ => true) true 59 (.agg cs) d p := ⟨fuel, hd⟩
  have ltd : ∀ x ∈ p, x.block < W.heap.size := DataW.trod_lt fuel _ _ _ hd
  obtain ⟨fuel', hd'⟩ := Below.trod laidOut (by kernel_rfl) (of_decide_eq_true (by kernel_rfl)) kd bel ltd
  exact ⟨_, rfl, _, _, _, [], _, _, hW', trodAll_mk1 (shut_bool Tryd.underlying4 _), (trodAll_cons_mk (Below.trod laidOut (by kernel_rfl) (of_decide_eq_true (by kernel_rfl)) k0 bel lt0) (trodAll_cons_mk (Below.trod laidOut (by kernel_rfl) (of_decide_eq_true (by kernel_rfl)) k1 bel lt1) trodAll_mk0)),
    trodVars_mk1 gVar gVarType (var?_below bel gVar hG.lt hvar) hd', bel.frame _, fun h => by cases h⟩
noncomputable def laidWorld (os : Os) : World :=
  { World.holding Tryd.prog os ⟨#[], #[], []⟩ with heap := (World.holding Tryd.prog os ⟨#[], #[], []⟩).heap.modify 0 fun
      | .cells _ t frozen => .cells #[.int .i64 (-1), .int .i64 (0)] t frozen
      | o => o }
theorem laid_met (os : Os) : laidMet Tryd.prog Rows.fnBlockRow.laid ((laidWorld os).forCall (fun _ _ => 0) ⟨#[], #[.slice none 0 0, .slice none 0 0], []⟩).memory :=
  laidMet_of_run' 8 (by kernel_rfl) (by kernel_rfl)
theorem reads (os : Os) {H : Type} (enc : TypeId × Value → H) : ∃ x, DataW.whole enc Tryd.prog ((laidWorld os).forCall (fun _ _ => 0) ⟨#[], #[.slice none 0 0, .slice none 0 0], []⟩).memory Tryd.f3.params.toList Rows.fnBlockSpec.vars false #[.slice none 0 0, .slice none 0 0].toList 8 = some x :=
  Option.isSome_iff_exists.1 (by kernel_rfl)
set_option maxRecDepth 100000 in
theorem lifted (os : Os) (started : os.Started) (H : Type) (enc : TypeId × Value → H) (F : Stop.Interp) :
    ReturnsInHanded {} Tryd.checked os 3 .any ((OpenSpec.ofChange Rows.fnBlockSpec).preRow enc Tryd.prog Tryd.f3 Rows.fnBlockRow.domain false Rows.fnBlockRow.laid) (((OpenSpec.ofChange Rows.fnBlockSpec).at F).post enc Tryd.prog Tryd.f3 false true false false) := by
  obtain ⟨x, hx⟩ := reads os enc
  refine returnsInHanded_of_row (C := Tryd.checked) (s := OpenSpec.ofChange Rows.fnBlockSpec) own started (by kernel_rfl) Tryd.func3
    (witness_row_at (enc := enc) (C := Tryd.checked) false (laidWorld os) #[.slice none 0 0, .slice none 0 0] rfl (by kernel_rfl) (by kernel_rfl) (by kernel_rfl)
      (OpenSpec.preRow_of_cond 8 hx rfl (fun k hk => by cases hk) (by kernel_rfl) (laid_met os))) ?_
  intro W base args ds gs before hval hW _ _ _ hL _ _
  exact contract H enc W base args ds gs before hval hW hL
theorem said : Rows.FnBlockSaid :=
  OpenClaim.holds_of_cond 3 Tryd.f3 rfl rfl rfl rfl rfl rfl rfl ⟨rfl, rfl, rfl, rfl, rfl⟩ rfl rfl rfl rfl rfl (by kernel_rfl) Tryd.func3 (by kernel_rfl)
    (of_decide_eq_true (by kernel_rfl)) (by unfold Func.isWrapper; first | (rw [if_pos (by decide +kernel)]; kernel_rfl) | (rw [if_neg (by decide +kernel)]; exact ⟨rfl, rfl⟩))
    (fun os started H enc _ F => by rw [OpenClaim.pre_eq_preRow]; exact lifted os started H enc F)
theorem plain (f : FuncId) (fn : Func) (hf : Tryd.pinned.checked.prog.funcNamed "loop.example/g00410/laws.FnBlock" = some f) (hfn : Tryd.pinned.checked.prog.funcs[f]? = some fn) :
    false = Tryd.pinned.checked.prog.looks [] ∧ ∀ (j : Nat) t, fn.params[j]? = some t → Tryd.pinned.checked.prog.wantsStandIn t = false := by
  obtain rfl : f = 3 := Option.some.inj ((show Tryd.prog.funcNamed "loop.example/g00410/laws.FnBlock" = some 3 by kernel_rfl).symm.trans hf) |>.symm
  obtain rfl : fn = Tryd.f3 := (Option.some.inj (Tryd.func3.symm.trans hfn)).symm
  refine ⟨by kernel_rfl, fun j t ht => ?_⟩
  rw [Tryd.params3] at ht
  have hm := Array.mem_of_getElem? ht
  simp at hm
  subst hm
  exact (show Tryd.prog.wantsStandIn 22 = false by kernel_rfl)
end Go.Proofs.YtbjcoeimcdodjaaDoor.fnBlock
namespace Go.Proofs.YtbjcoeimcdodjaaDoor
theorem fnBlock_holds : Rows.FnBlockCardSaid :=
  Claim7.holds_tied_plain_at .later [] _ _ _ _ fnBlock.said (fun _ h => by cases h) (by kernel_rfl) (fun _ h => by cases h) fnBlock_row_tie rfl ⟨rfl, rfl⟩ (by kernel_rfl) rfl fnBlock.plain (by kernel_rfl)
#print axioms fnBlock_holds
end Go.Proofs.YtbjcoeimcdodjaaDoor
