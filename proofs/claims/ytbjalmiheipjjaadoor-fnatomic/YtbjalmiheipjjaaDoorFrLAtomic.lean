/- The theorem of the journal: wherever the program's journal crashes, whatever survives, behind the program's replay either all updates are there or none, and the count is 0 and all is sure; the variable impl.stepBounds starts as the program's text lays it; no other conditions but the statement's own. -/
import Derived.Test.YtbjalmiheipjjaaDoorLawAtomic
import Derived.Test.YtbjalmiheipjjaaDoorSBv
import Derived.Test.YtbjalmiheipjjaaDoorZAU
import Derived.Test.YtbjalmiheipjjaaDoorCards
import Derived.Test.YtbjalmiheipjjaaDoorTie
import Derived.ProofKit
import Derived.OpenShut
import Derived.ShutString
import Derived.ChangeOld
import Derived.Deep.DeepHandedRow
import Derived.Lib.LaidTab
namespace Go.Proofs.YtbjalmiheipjjaaDoor.fnAtomic
open Go.ChangeShapes Go.WideShapes Go.ChangeAt Go.RowKit Go.Joins
open Go.ChangeMaps (open_string shut_string)
theorem gVar : Tryd.prog.globalNamed "loop.example/g00410/impl.stepBounds" = some 0 := by kernel_rfl
theorem gVarType : (Tryd.prog.globals[0]?).map (·.type) = some 82 := by kernel_rfl
theorem cellsVar : Tryd.prog.cellsOf 82 = 12 := by kernel_rfl
theorem cells_nw {H : Type} {enc : TypeId × Value → H} {w : World} {base : Nat} {sp : Nat → Bool} {held : Bool} {fuel : Nat} {cs : List Value} {p : List MemPlace}
    (h : DataW.trod enc Tryd.prog w base sp held fuel 82 cs = some (.agg [.agg [.lit (.int .i64 0), .lit (.int .i64 0)], .agg [.lit (.int .i64 336), .lit (.int .i64 1099511627776)], .agg [.lit (.int .i64 336), .lit (.int .i64 1)], .agg [.lit (.int .i64 1), .lit (.int .i64 1)], .agg [.lit (.int .i64 32), .lit (.int .i64 1099511627776)], .agg [.lit (.int .i64 1), .lit (.int .i64 1)]], p)) : cs = [.int .i64 (0), .int .i64 (0), .int .i64 (336), .int .i64 (1099511627776), .int .i64 (336), .int .i64 (1), .int .i64 (1), .int .i64 (1), .int .i64 (32), .int .i64 (1099511627776), .int .i64 (1), .int .i64 (1)] := by
  exact Go.Proofs.YtbjalmiheipjjaaDoor.cells_sb (zs := [(0, 0), (336, 1099511627776), (336, 1), (1, 1), (32, 1099511627776), (1, 1)]) rfl h
theorem nw {W : World} (h : laidMetH Tryd.prog Rows.fnAtomicRow.laid W) : SB W := by
  obtain ⟨ps, ⟨g', t', cs, fuel, p, q, hg', ht', hvar, hd, _, _⟩, _⟩ := h
  obtain rfl := Option.some.inj (gVar.symm.trans hg')
  obtain rfl := Option.some.inj (gVarType.symm.trans ht')
  have e := cells_nw hd
  simp only [World.var?, gVar, Option.bind_some] at hvar
  split at hvar
  · rename_i cs' t fr hh
    obtain rfl := Option.some.inj hvar
    refine ⟨t, fr, ?_⟩
    rw [hh]
    cases cs' with
    | mk l => simp only at e; rw [e]
  · cases hvar
set_option maxRecDepth 100000 in
theorem contract (H : Type) (enc : TypeId × Value → H) (W : World) (base : Nat) (args : Array Value) (ds gs : List (DataW H)) (before : List MemPlace)
    (hval : ∀ (j : Nat) t v, Tryd.f3.params[j]? = some t → args[j]? = some v → Value.okWide Tryd.prog W .any base t v)
    (hW : DataW.Whole enc Tryd.prog Tryd.f3.params.toList Rows.fnAtomicSpec.vars false W args.toList ds gs before) (hL : laidMetH Tryd.prog Rows.fnAtomicRow.laid W) :
    Calls Tryd.prog 3 args W fun e W' => ∃ v, e = .returned v ∧ Rows.fnAtomicSpec.post enc Tryd.prog Tryd.f3 false true false false W args v W' := by
  have hG := nw hL
  have hW' := hW
  obtain ⟨p, q, hA0, hV, rfl, hfz, hnd⟩ := hW
  have hA : DataW.TrodAll enc Tryd.prog W 0 (fun _ => true) true Tryd.f3.params.toList args.toList ds p := hA0
  rw [Tryd.params3] at hA hval
  obtain ⟨v0, vs0, d0, ds0, p0, q0, hargs, rfl, rfl, h0, r0⟩ := trodAll_cons hA
  obtain ⟨v1, vs1, d1, ds1, p1, q1, rfl, rfl, rfl, h1, r1⟩ := trodAll_cons r0
  obtain ⟨rfl, rfl, rfl⟩ := trodAll_nil r1
  obtain rfl : args = #[v0, v1] := by cases args; simp_all
  have k0 := h0
  have lt0 : ∀ x ∈ p0, x.block < W.heap.size := by obtain ⟨m, hm⟩ := k0; exact DataW.trod_lt m _ _ _ hm
  obtain ⟨z0, hz0, hl0⟩ : ∃ zs : List Int, RdB W v0 zs ∧ zs.length ≤ maxLen := by
    obtain ⟨ao, len, cap, rfl⟩ := okWide_slice Tryd.underlying22 (hval 0 22 v0 rfl rfl)
    obtain ⟨fuel, hf⟩ := h0
    exact open_RdB hf
  have k1 := h1
  have lt1 : ∀ x ∈ p1, x.block < W.heap.size := by obtain ⟨m, hm⟩ := k1; exact DataW.trod_lt m _ _ _ hm
  obtain ⟨z1, hz1, hl1⟩ : ∃ zs : List Int, RdB W v1 zs ∧ zs.length ≤ maxLen := by
    obtain ⟨ao, len, cap, rfl⟩ := okWide_slice Tryd.underlying22 (hval 1 22 v1 rfl rfl)
    obtain ⟨fuel, hf⟩ := h1
    exact open_RdB hf
  clear hA0
  refine (fnAtomic_law v0 v1 z0 z1 W hG hz0 hz1 hl0 hl1).mono fun e W' ⟨he, bel⟩ => ?_
  subst he
  obtain ⟨g, t, cs, fuel, d, p, rfl, hg, hty, hvar, hd, rfl⟩ := trodVars_one hV
  obtain rfl := Option.some.inj (gVar.symm.trans hg)
  obtain rfl := Option.some.inj (gVarType.symm.trans hty)
  have kd : DataW.Trod enc Tryd.prog W 0 (fun _ => true) true 82 (.agg cs) d p := ⟨fuel, hd⟩
  have ltd : ∀ x ∈ p, x.block < W.heap.size := DataW.trod_lt fuel _ _ _ hd
  obtain ⟨fuel', hd'⟩ := Below.trod laidOut (by kernel_rfl) (of_decide_eq_true (by kernel_rfl)) kd bel ltd
  exact ⟨_, rfl, _, _, _, [], _, _, hW', trodAll_mk1 (shut_bool Tryd.underlying4 _), (trodAll_cons_mk (Below.trod laidOut (by kernel_rfl) (of_decide_eq_true (by kernel_rfl)) k0 bel lt0) (trodAll_cons_mk (Below.trod laidOut (by kernel_rfl) (of_decide_eq_true (by kernel_rfl)) k1 bel lt1) trodAll_mk0)),
    trodVars_mk1 gVar gVarType (var?_below bel gVar hG.lt hvar) hd', bel.frame _, fun h => by cases h⟩
noncomputable def laidWorld (os : Os) : World :=
  { World.holding Tryd.prog os ⟨#[], #[], []⟩ with heap := (World.holding Tryd.prog os ⟨#[], #[], []⟩).heap.modify 0 fun
      | .cells _ t frozen => .cells #[.int .i64 (0), .int .i64 (0), .int .i64 (336), .int .i64 (1099511627776), .int .i64 (336), .int .i64 (1), .int .i64 (1), .int .i64 (1), .int .i64 (32), .int .i64 (1099511627776), .int .i64 (1), .int .i64 (1)] t frozen
      | o => o }
theorem laid_met (os : Os) : laidMet Tryd.prog Rows.fnAtomicRow.laid ((laidWorld os).forCall (fun _ _ => 0) ⟨#[], #[.slice none 0 0, .slice none 0 0], []⟩).memory :=
  laidMet_of_run' 8 (by kernel_rfl) (by kernel_rfl)
theorem reads (os : Os) {H : Type} (enc : TypeId × Value → H) : ∃ x, DataW.whole enc Tryd.prog ((laidWorld os).forCall (fun _ _ => 0) ⟨#[], #[.slice none 0 0, .slice none 0 0], []⟩).memory Tryd.f3.params.toList Rows.fnAtomicSpec.vars false #[.slice none 0 0, .slice none 0 0].toList 8 = some x :=
  Option.isSome_iff_exists.1 (by kernel_rfl)
set_option maxRecDepth 100000 in
theorem lifted (os : Os) (started : os.Started) (H : Type) (enc : TypeId × Value → H) (F : Stop.Interp) :
    ReturnsInHanded {} Tryd.checked os 3 .any ((OpenSpec.ofChange Rows.fnAtomicSpec).preRow enc Tryd.prog Tryd.f3 Rows.fnAtomicRow.domain false Rows.fnAtomicRow.laid) (((OpenSpec.ofChange Rows.fnAtomicSpec).at F).post enc Tryd.prog Tryd.f3 false true false false) := by
  obtain ⟨x, hx⟩ := reads os enc
  refine returnsInHanded_of_row (C := Tryd.checked) (s := OpenSpec.ofChange Rows.fnAtomicSpec) own started (by kernel_rfl) Tryd.func3
    (witness_row_at (enc := enc) (C := Tryd.checked) false (laidWorld os) #[.slice none 0 0, .slice none 0 0] rfl (by kernel_rfl) (by kernel_rfl) (by kernel_rfl)
      (OpenSpec.preRow_of_cond 8 hx rfl (fun k hk => by cases hk) (by kernel_rfl) (laid_met os))) ?_
  intro W base args ds gs before hval hW _ _ _ hL _ _
  exact contract H enc W base args ds gs before hval hW hL
theorem said : Rows.FnAtomicSaid :=
  OpenClaim.holds_of_cond 3 Tryd.f3 rfl rfl rfl rfl rfl rfl rfl ⟨rfl, rfl, rfl, rfl, rfl⟩ rfl rfl rfl rfl rfl (by kernel_rfl) Tryd.func3 (by kernel_rfl)
    (of_decide_eq_true (by kernel_rfl)) (by unfold Func.isWrapper; first | (rw [if_pos (by decide +kernel)]; kernel_rfl) | (rw [if_neg (by decide +kernel)]; exact ⟨rfl, rfl⟩))
    (fun os started H enc _ F => by rw [OpenClaim.pre_eq_preRow]; exact lifted os started H enc F)
theorem plain (f : FuncId) (fn : Func) (hf : Tryd.pinned.checked.prog.funcNamed "loop.example/g00410/laws.FnAtomic" = some f) (hfn : Tryd.pinned.checked.prog.funcs[f]? = some fn) :
    false = Tryd.pinned.checked.prog.looks [] ∧ ∀ (j : Nat) t, fn.params[j]? = some t → Tryd.pinned.checked.prog.wantsStandIn t = false := by
  obtain rfl : f = 3 := Option.some.inj ((show Tryd.prog.funcNamed "loop.example/g00410/laws.FnAtomic" = some 3 by kernel_rfl).symm.trans hf) |>.symm
  obtain rfl : fn = Tryd.f3 := (Option.some.inj (Tryd.func3.symm.trans hfn)).symm
  refine ⟨by kernel_rfl, fun j t ht => ?_⟩
  rw [Tryd.params3] at ht
  have hm := Array.mem_of_getElem? ht
  simp at hm
  subst hm
  exact (show Tryd.prog.wantsStandIn 22 = false by kernel_rfl)
end Go.Proofs.YtbjalmiheipjjaaDoor.fnAtomic
namespace Go.Proofs.YtbjalmiheipjjaaDoor
theorem fnAtomic_holds : Rows.FnAtomicCardSaid :=
  Claim7.holds_tied_plain_at .later [] _ _ _ _ fnAtomic.said (fun _ h => by cases h) (by kernel_rfl) (fun _ h => by cases h) fnAtomic_row_tie rfl ⟨rfl, rfl⟩ (by kernel_rfl) rfl fnAtomic.plain (by kernel_rfl)
#print axioms fnAtomic_holds
end Go.Proofs.YtbjalmiheipjjaaDoor
