/- Operations are read back from their texts, and steps are told as their model tells them. -/
import Derived.Test.YtjkdmhdehihcbaaGreatDoorLawTexts
import Derived.Test.YtjkdmhdehihcbaaGreatDoorZCA
import Derived.Test.YtjkdmhdehihcbaaGreatDoorZAD
import Derived.Test.YtjkdmhdehihcbaaGreatDoorZAC
import Derived.Test.YtjkdmhdehihcbaaGreatDoorZAE
import Derived.Test.YtjkdmhdehihcbaaGreatDoorZBT
import Derived.Test.YtjkdmhdehihcbaaGreatDoorCards
import Derived.Test.YtjkdmhdehihcbaaGreatDoorTie
import Derived.ProofKit
import Derived.OpenShut
import Derived.ShutString
import Derived.ChangeOld
import Derived.Deep.DeepHandedRow
import Derived.Lib.LaidTab
import Derived.Lib.SmallJoins
import Derived.Deep.RegionWith
import Derived.Deep.RegionHeld3
import Derived.Laws.OwnMore
import Derived.Deep.RegionLaw
namespace Go.Proofs.YtjkdmhdehihcbaaGreatDoor.fnTexts
open Go.ChangeShapes Go.WideShapes Go.ChangeAt Go.RowKit Go.Joins
open Go.ChangeMaps (open_string shut_string)
theorem g_stepBounds : Tryz.prog.globalNamed "loop.example/g00410/impl.stepBounds" = some 1 := by kernel_rfl
theorem t_stepBounds : (Tryz.prog.globals[1]?).map (·.type) = some 124 := by kernel_rfl
theorem v_stepBounds {W : World} {g : Nat} {t : TypeId} {cs : Array Value} {fuel : Nat} {p : List MemPlace} (hg : Tryz.prog.globalNamed "loop.example/g00410/impl.stepBounds" = some g) (ht : (Tryz.prog.globals[g]?).map (·.type) = some t) (hvar : W.var? Tryz.prog "loop.example/g00410/impl.stepBounds" = some cs)
    (hd : DataW.trod (fun _ => ()) Tryz.prog W 0 (fun _ => true) false fuel t cs.toList = some (Rows.laid_loop_example_g00410_impl_stepBounds, p)) : SB W := by
  obtain rfl := Option.some.inj (g_stepBounds.symm.trans hg)
  obtain rfl := Option.some.inj (t_stepBounds.symm.trans ht)
  have e : cs.toList = [.int .i64 0, .int .i64 0, .int .i64 336, .int .i64 1099511627776, .int .i64 336, .int .i64 1, .int .i64 1, .int .i64 1, .int .i64 32, .int .i64 1099511627776, .int .i64 1, .int .i64 1] := cells_sb (zs := [(0, 0), (336, 1099511627776), (336, 1), (1, 1), (32, 1099511627776), (1, 1)]) rfl hd
  simp only [World.var?, g_stepBounds, Option.bind_some] at hvar
  split at hvar
  · rename_i cs' t fr hh
    obtain rfl := Option.some.inj hvar
    refine ⟨t, fr, ?_⟩
    rw [hh]
    cases cs' with
    | mk l => simp only at e; rw [e] <;> rfl
  · cases hvar
theorem g_stepForms : Tryz.prog.globalNamed "loop.example/g00410/impl.stepForms" = some 2 := by kernel_rfl
theorem t_stepForms : (Tryz.prog.globals[2]?).map (·.type) = some 126 := by kernel_rfl
theorem v_stepForms {W : World} {g : Nat} {t : TypeId} {cs : Array Value} {fuel : Nat} {p : List MemPlace} (hg : Tryz.prog.globalNamed "loop.example/g00410/impl.stepForms" = some g) (ht : (Tryz.prog.globals[g]?).map (·.type) = some t) (hvar : W.var? Tryz.prog "loop.example/g00410/impl.stepForms" = some cs)
    (hd : DataW.trod (fun _ => ()) Tryz.prog W 0 (fun _ => true) false fuel t cs.toList = some (Rows.laid_loop_example_g00410_impl_stepForms, p)) : StF W := by
  obtain rfl := Option.some.inj (g_stepForms.symm.trans hg)
  obtain rfl := Option.some.inj (t_stepForms.symm.trans ht)
  have e : cs.toList = [.string ⟨#[]⟩, .int .i64 0, .string ⟨#[115, 116, 111, 114, 101]⟩, .int .i64 2, .string ⟨#[102, 108, 117, 115, 104]⟩, .int .i64 1, .string ⟨#[102, 101, 110, 99, 101]⟩, .int .i64 0, .string ⟨#[119, 114, 105, 116, 101]⟩, .int .i64 2, .string ⟨#[98, 97, 114, 114, 105, 101, 114]⟩, .int .i64 0] := cells_sf (zs := [([], 0), ([115, 116, 111, 114, 101], 2), ([102, 108, 117, 115, 104], 1), ([102, 101, 110, 99, 101], 0), ([119, 114, 105, 116, 101], 2), ([98, 97, 114, 114, 105, 101, 114], 0)]) rfl hd
  simp only [World.var?, g_stepForms, Option.bind_some] at hvar
  split at hvar
  · rename_i cs' t fr hh
    obtain rfl := Option.some.inj hvar
    refine ⟨t, fr, ?_⟩
    rw [hh]
    cases cs' with
    | mk l => simp only at e; rw [e] <;> rfl
  · cases hvar
theorem t_pow10 : (Tryz.prog.globals[5]?).map (·.type) = some 303 := by kernel_rfl
theorem v_pow10 {W : World} {g : Nat} {t : TypeId} {cs : Array Value} {fuel : Nat} {p : List MemPlace} (hg : Tryz.prog.globalNamed "internal/strconv.uint64pow10" = some g) (ht : (Tryz.prog.globals[g]?).map (·.type) = some t) (hvar : W.var? Tryz.prog "internal/strconv.uint64pow10" = some cs)
    (hd : DataW.trod (fun _ => ()) Tryz.prog W 0 (fun _ => true) false fuel t cs.toList = some (Rows.laid_internal_strconv_uint64pow10, p)) : PT W := by
  obtain rfl := Option.some.inj (g_pow10.symm.trans hg)
  obtain rfl := Option.some.inj (t_pow10.symm.trans ht)
  have e : cs.toList = Lib.pow10Tab.map fun z => Value.int .u64 z := Lib.cells_of_tab (n := 20) (e := 240) (by kernel_rfl) (by kernel_rfl) (by kernel_rfl) (by kernel_rfl) hd
  simp only [World.var?, g_pow10, Option.bind_some] at hvar
  split at hvar
  · rename_i cs' t fr hh
    obtain rfl := Option.some.inj hvar
    refine ⟨t, fr, ?_⟩
    rw [hh, ← e]
  · cases hvar
theorem g_SY : Tryz.prog.globalNamed "strconv.ErrSyntax" = some 8 := by kernel_rfl
theorem t_SY : (Tryz.prog.globals[8]?).map (·.type) = some 150 := by kernel_rfl
theorem v_SY {W : World} {g : Nat} {t : TypeId} {cs : Array Value} {fuel : Nat} {p : List MemPlace} (hg : Tryz.prog.globalNamed "strconv.ErrSyntax" = some g) (ht : (Tryz.prog.globals[g]?).map (·.type) = some t) (hvar : W.var? Tryz.prog "strconv.ErrSyntax" = some cs)
    (hd : DataW.trod (fun _ => ()) Tryz.prog W 0 (fun _ => true) false fuel t cs.toList = some (Rows.laid_strconv_ErrSyntax, p)) : SY W := by
  obtain rfl := Option.some.inj (g_SY.symm.trans hg)
  obtain rfl := Option.some.inj (t_SY.symm.trans ht)
  have e := err_cell ⟨_, Tryz.underlying150⟩ hd
  simp only [World.var?, g_SY, Option.bind_some] at hvar
  split at hvar
  · rename_i cs' t fr hh
    obtain rfl := Option.some.inj hvar
    exact err_var hh e
  · cases hvar
theorem g_RY : Tryz.prog.globalNamed "strconv.ErrRange" = some 9 := by kernel_rfl
theorem t_RY : (Tryz.prog.globals[9]?).map (·.type) = some 150 := by kernel_rfl
theorem v_RY {W : World} {g : Nat} {t : TypeId} {cs : Array Value} {fuel : Nat} {p : List MemPlace} (hg : Tryz.prog.globalNamed "strconv.ErrRange" = some g) (ht : (Tryz.prog.globals[g]?).map (·.type) = some t) (hvar : W.var? Tryz.prog "strconv.ErrRange" = some cs)
    (hd : DataW.trod (fun _ => ()) Tryz.prog W 0 (fun _ => true) false fuel t cs.toList = some (Rows.laid_strconv_ErrRange, p)) : RY W := by
  obtain rfl := Option.some.inj (g_RY.symm.trans hg)
  obtain rfl := Option.some.inj (t_RY.symm.trans ht)
  have e := err_cell ⟨_, Tryz.underlying150⟩ hd
  simp only [World.var?, g_RY, Option.bind_some] at hvar
  split at hvar
  · rename_i cs' t fr hh
    obtain rfl := Option.some.inj hvar
    exact err_var hh e
  · cases hvar
theorem nw {W : World} (h : laidMetH Tryz.prog Rows.fnTextsRow.laid W) : SB W ∧ StF W ∧ PT W ∧ SY W ∧ RY W := by
  obtain ⟨ps, ⟨g0, t0, c0, f0, p0, q0, hg0, ht0, hv0, hd0, ⟨g1, t1, c1, f1, p1, q1, hg1, ht1, hv1, hd1, ⟨g2, t2, c2, f2, p2, q2, hg2, ht2, hv2, hd2, ⟨g3, t3, c3, f3, p3, q3, hg3, ht3, hv3, hd3, ⟨g4, t4, c4, f4, p4, q4, hg4, ht4, hv4, hd4, ⟨g5, t5, c5, f5, p5, q5, hg5, ht5, hv5, hd5, ⟨g6, t6, c6, f6, p6, q6, hg6, ht6, hv6, hd6, ⟨g7, t7, c7, f7, p7, q7, hg7, ht7, hv7, hd7, ⟨g8, t8, c8, f8, p8, q8, hg8, ht8, hv8, hd8, _, _⟩, _⟩, _⟩, _⟩, _⟩, _⟩, _⟩, _⟩, _⟩, _⟩ := h
  exact ⟨v_stepBounds hg6 ht6 hv6 hd6, v_stepForms hg7 ht7 hv7 hd7, v_pow10 hg2 ht2 hv2 hd2, v_SY hg5 ht5 hv5 hd5, v_RY hg4 ht4 hv4 hd4⟩
theorem lt_var {P : Program} {W : World} {n : String} {g : Nat} {cs : Array Value} (hg : P.globalNamed n = some g) (h : W.var? P n = some cs) : g < W.heap.size := by
  simp only [World.var?, hg, Option.bind_some] at h
  split at h
  · rename_i hh; exact (Array.getElem?_eq_some_iff.1 hh).1
  · cases h
theorem trodVars_cons {H : Type} {enc : TypeId × Value → H} {P : Program} {w : World} {spare : Nat → Bool} {n : String} {ns : List String} {gs : List (DataW H)} {ps : List MemPlace} (h : DataW.TrodVars enc P w spare (n :: ns) gs ps) :
    ∃ g t cs fuel d p q ds, gs = d :: ds ∧ P.globalNamed n = some g ∧ (P.globals[g]?).map (·.type) = some t ∧ w.var? P n = some cs ∧ DataW.trod enc P w 0 spare true fuel t cs.toList = some (d, p) ∧ DataW.TrodVars enc P w spare ns ds q := by
  cases gs with
  | nil => simp [DataW.TrodVars] at h
  | cons d ds =>
    obtain ⟨g, t, cs, fuel, p, q, h1, h2, h3, h4, hs, e⟩ := h
    exact ⟨g, t, cs, fuel, d, p, q, ds, rfl, h1, h2, h3, h4, hs⟩
set_option maxRecDepth 100000 in
theorem contract (H : Type) (enc : TypeId × Value → H) (W : World) (base : Nat) (args : Array Value) (ds gs : List (DataW H)) (before : List MemPlace)
    (hval : ∀ (j : Nat) t v, Tryz.f3.params[j]? = some t → args[j]? = some v → Value.okWide Tryz.prog W .any base t v)
    (hW : DataW.Whole enc Tryz.prog Tryz.f3.params.toList Rows.fnTextsSpec.vars false W args.toList ds gs before) (hL : laidMetH Tryz.prog Rows.fnTextsRow.laid W) :
    Calls Tryz.prog 3 args W fun e W' => ∃ v, e = .returned v ∧ Rows.fnTextsSpec.post enc Tryz.prog Tryz.f3 false true false false W args v W' := by
  obtain ⟨hSB, hStF, hPT, hSY, hRY⟩ := nw hL
  have hW' := hW
  obtain ⟨p, q, hA0, hV, rfl, hfz, hnd⟩ := hW
  have hA : DataW.TrodAll enc Tryz.prog W 0 (fun _ => true) true Tryz.f3.params.toList args.toList ds p := hA0
  rw [Tryz.params3] at hA hval
  obtain ⟨v0, vs0, d0, ds0, p0, q0, hargs, rfl, rfl, h0, r0⟩ := trodAll_cons hA
  obtain ⟨v1, vs1, d1, ds1, p1, q1, rfl, rfl, rfl, h1, r1⟩ := trodAll_cons r0
  obtain ⟨rfl, rfl, rfl⟩ := trodAll_nil r1
  obtain rfl : args = #[v0, v1] := by cases args; simp_all
  have k0 := h0
  have lt0 : ∀ x ∈ p0, x.block < W.heap.size := by obtain ⟨m, hm⟩ := k0; exact DataW.trod_lt m _ _ _ hm
  obtain ⟨z0, hz0, hl0⟩ : ∃ zs : List Int, RdB W v0 zs ∧ zs.length ≤ maxLen := by
    obtain ⟨ao, len, cap, rfl⟩ := okWide_slice Tryz.underlying22 (hval 0 22 v0 rfl rfl)
    obtain ⟨fuel, hf⟩ := h0
    exact open_RdB hf
  have k1 := h1
  have lt1 : ∀ x ∈ p1, x.block < W.heap.size := by obtain ⟨m, hm⟩ := k1; exact DataW.trod_lt m _ _ _ hm
  obtain ⟨z1, hz1, hl1⟩ : ∃ zs : List Int, RdB W v1 zs ∧ zs.length ≤ maxLen := by
    obtain ⟨ao, len, cap, rfl⟩ := okWide_slice Tryz.underlying22 (hval 1 22 v1 rfl rfl)
    obtain ⟨fuel, hf⟩ := h1
    exact open_RdB hf
  clear hA0
  refine (fnTexts_law v0 v1 z0 z1 W hz0 hz1 hSB hStF hPT hSY hRY).mono fun e W' ⟨he, bel⟩ => ?_
  subst he
  obtain ⟨g0, t0, cs0, fu0, dd0, pp0, qq0, ds0v, rfl, hg0, hty0, hvar0, hd0, hV0⟩ := trodVars_cons hV
  obtain rfl := Option.some.inj (g_stepBounds.symm.trans hg0)
  obtain rfl := Option.some.inj (t_stepBounds.symm.trans hty0)
  have kd0 : DataW.Trod enc Tryz.prog W 0 (fun _ => true) true 124 (.agg cs0) dd0 pp0 := ⟨fu0, hd0⟩
  have ltd0 : ∀ x ∈ pp0, x.block < W.heap.size := DataW.trod_lt fu0 _ _ _ hd0
  obtain ⟨fe0, he0⟩ := Below.trod laidOut (by kernel_rfl) (of_decide_eq_true (by kernel_rfl)) kd0 bel ltd0
  obtain ⟨g1, t1, cs1, fu1, dd1, pp1, qq1, ds1v, rfl, hg1, hty1, hvar1, hd1, hV1⟩ := trodVars_cons hV0
  obtain rfl := Option.some.inj (g_stepForms.symm.trans hg1)
  obtain rfl := Option.some.inj (t_stepForms.symm.trans hty1)
  have kd1 : DataW.Trod enc Tryz.prog W 0 (fun _ => true) true 126 (.agg cs1) dd1 pp1 := ⟨fu1, hd1⟩
  have ltd1 : ∀ x ∈ pp1, x.block < W.heap.size := DataW.trod_lt fu1 _ _ _ hd1
  obtain ⟨fe1, he1⟩ := Below.trod laidOut (by kernel_rfl) (of_decide_eq_true (by kernel_rfl)) kd1 bel ltd1
  obtain ⟨rfl, rfl⟩ := trodVars_none hV1
  exact ⟨_, rfl, _, _, _, [], _, _, hW', trodAll_mk1 (shut_bool Tryz.underlying4 _), (trodAll_cons_mk (Below.trod laidOut (by kernel_rfl) (of_decide_eq_true (by kernel_rfl)) k0 bel lt0) (trodAll_cons_mk (Below.trod laidOut (by kernel_rfl) (of_decide_eq_true (by kernel_rfl)) k1 bel lt1) trodAll_mk0)),
    ⟨_, _, _, fe0, _, _, g_stepBounds, t_stepBounds, var?_below bel g_stepBounds (lt_var g_stepBounds hvar0) hvar0, he0, ⟨_, _, _, fe1, _, _, g_stepForms, t_stepForms, var?_below bel g_stepForms (lt_var g_stepForms hvar1) hvar1, he1, rfl, rfl⟩, rfl⟩, bel.frame _, fun h => by cases h⟩
noncomputable def laidWorld (os : Os) : World :=
  { World.holding Tryz.prog os ⟨#[.cells #[.string ⟨#[118, 97, 108, 117, 101, 32, 111, 117, 116, 32, 111, 102, 32, 114, 97, 110, 103, 101]⟩] 366, .cells #[.string ⟨#[105, 110, 118, 97, 108, 105, 100, 32, 115, 121, 110, 116, 97, 120]⟩] 366], #[], []⟩ with heap := ((((((((((World.holding Tryz.prog os ⟨#[.cells #[.string ⟨#[118, 97, 108, 117, 101, 32, 111, 117, 116, 32, 111, 102, 32, 114, 97, 110, 103, 101]⟩] 366, .cells #[.string ⟨#[105, 110, 118, 97, 108, 105, 100, 32, 115, 121, 110, 116, 97, 120]⟩] 366], #[], []⟩).heap.modify 11 fun | .cells _ t frozen => .cells #[.int .u8 0, .int .u8 1, .int .u8 28, .int .u8 2, .int .u8 29, .int .u8 14, .int .u8 24, .int .u8 3, .int .u8 30, .int .u8 22, .int .u8 20, .int .u8 15, .int .u8 25, .int .u8 17, .int .u8 4, .int .u8 8, .int .u8 31, .int .u8 27, .int .u8 13, .int .u8 23, .int .u8 21, .int .u8 19, .int .u8 16, .int .u8 7, .int .u8 26, .int .u8 12, .int .u8 18, .int .u8 6, .int .u8 11, .int .u8 5, .int .u8 10, .int .u8 9] t frozen | o => o).modify 12 fun | .cells _ t frozen => .cells #[.int .u8 0, .int .u8 1, .int .u8 56, .int .u8 2, .int .u8 57, .int .u8 49, .int .u8 28, .int .u8 3, .int .u8 61, .int .u8 58, .int .u8 42, .int .u8 50, .int .u8 38, .int .u8 29, .int .u8 17, .int .u8 4, .int .u8 62, .int .u8 47, .int .u8 59, .int .u8 36, .int .u8 45, .int .u8 43, .int .u8 51, .int .u8 22, .int .u8 53, .int .u8 39, .int .u8 33, .int .u8 30, .int .u8 24, .int .u8 18, .int .u8 12, .int .u8 5, .int .u8 63, .int .u8 55, .int .u8 48, .int .u8 27, .int .u8 60, .int .u8 41, .int .u8 37, .int .u8 16, .int .u8 46, .int .u8 35, .int .u8 44, .int .u8 21, .int .u8 52, .int .u8 32, .int .u8 23, .int .u8 11, .int .u8 54, .int .u8 26, .int .u8 40, .int .u8 15, .int .u8 34, .int .u8 20, .int .u8 31, .int .u8 10, .int .u8 25, .int .u8 14, .int .u8 19, .int .u8 9, .int .u8 13, .int .u8 8, .int .u8 7, .int .u8 6] t frozen | o => o).modify 5 fun | .cells _ t frozen => .cells #[.int .u64 1, .int .u64 10, .int .u64 100, .int .u64 1000, .int .u64 10000, .int .u64 100000, .int .u64 1000000, .int .u64 10000000, .int .u64 100000000, .int .u64 1000000000, .int .u64 10000000000, .int .u64 100000000000, .int .u64 1000000000000, .int .u64 10000000000000, .int .u64 100000000000000, .int .u64 1000000000000000, .int .u64 10000000000000000, .int .u64 100000000000000000, .int .u64 1000000000000000000, .int .u64 10000000000000000000] t frozen | o => o).modify 14 fun | .cells _ t frozen => .cells #[.int .u8 128, .int .u8 191, .int .u8 160, .int .u8 191, .int .u8 128, .int .u8 159, .int .u8 144, .int .u8 191, .int .u8 128, .int .u8 143, .int .u8 0, .int .u8 0, .int .u8 0, .int .u8 0, .int .u8 0, .int .u8 0, .int .u8 0, .int .u8 0, .int .u8 0, .int .u8 0, .int .u8 0, .int .u8 0, .int .u8 0, .int .u8 0, .int .u8 0, .int .u8 0, .int .u8 0, .int .u8 0, .int .u8 0, .int .u8 0, .int .u8 0, .int .u8 0] t frozen | o => o).modify 9 fun | .cells _ t frozen => .cells #[.iface 364 (.pointer (some ⟨(World.settled Tryz.prog os).heap.size + 0, 0, none⟩))] t frozen | o => o).modify 8 fun | .cells _ t frozen => .cells #[.iface 364 (.pointer (some ⟨(World.settled Tryz.prog os).heap.size + 1, 0, none⟩))] t frozen | o => o).modify 1 fun | .cells _ t frozen => .cells #[.int .i64 0, .int .i64 0, .int .i64 336, .int .i64 1099511627776, .int .i64 336, .int .i64 1, .int .i64 1, .int .i64 1, .int .i64 32, .int .i64 1099511627776, .int .i64 1, .int .i64 1] t frozen | o => o).modify 2 fun | .cells _ t frozen => .cells #[.string ⟨#[]⟩, .int .i64 0, .string ⟨#[115, 116, 111, 114, 101]⟩, .int .i64 2, .string ⟨#[102, 108, 117, 115, 104]⟩, .int .i64 1, .string ⟨#[102, 101, 110, 99, 101]⟩, .int .i64 0, .string ⟨#[119, 114, 105, 116, 101]⟩, .int .i64 2, .string ⟨#[98, 97, 114, 114, 105, 101, 114]⟩, .int .i64 0] t frozen | o => o).modify 13 fun | .cells _ t frozen => .cells (Go.Pinned.utf8FirstZ.map fun (n : Nat) => Value.int .u8 (n : Int)).toArray t frozen | o => o) }
theorem laid_met (os : Os) : laidMet Tryz.prog Rows.fnTextsRow.laid ((laidWorld os).forCall (fun _ _ => 0) ⟨#[], #[.slice none 0 0, .slice none 0 0], []⟩).memory :=
  laidMet_of_run' 8 (by kernel_rfl) (by kernel_rfl)
theorem reads (os : Os) {H : Type} (enc : TypeId × Value → H) : ∃ x, DataW.whole enc Tryz.prog ((laidWorld os).forCall (fun _ _ => 0) ⟨#[], #[.slice none 0 0, .slice none 0 0], []⟩).memory Tryz.f3.params.toList Rows.fnTextsSpec.vars false (#[.slice none 0 0, .slice none 0 0] : Array Value).toList 8 = some x :=
  Option.isSome_iff_exists.1 (by kernel_rfl)
set_option maxRecDepth 100000 in
theorem lifted (os : Os) (started : os.Started) (H : Type) (enc : TypeId × Value → H) (F : Stop.Interp) :
    ReturnsInHanded {} Tryz.checked os 3 .any ((OpenSpec.ofChange Rows.fnTextsSpec).preRow enc Tryz.prog Tryz.f3 Rows.fnTextsRow.domain false Rows.fnTextsRow.laid) (((OpenSpec.ofChange Rows.fnTextsSpec).at F).post enc Tryz.prog Tryz.f3 false true false false) := by
  obtain ⟨x, hx⟩ := reads os enc
  refine returnsInHanded_of_row (C := Tryz.checked) (s := OpenSpec.ofChange Rows.fnTextsSpec) own started (by kernel_rfl) Tryz.func3
    (witness_row_at (enc := enc) (C := Tryz.checked) false (laidWorld os) #[.slice none 0 0, .slice none 0 0] rfl (by kernel_rfl) (by kernel_rfl) (by kernel_rfl)
      (OpenSpec.preRow_of_cond 8 hx rfl (fun k hk => by cases hk) (by kernel_rfl) (laid_met os))) ?_
  intro W base args ds gs before hval hW _ _ _ hL _ _
  exact contract H enc W base args ds gs before hval hW hL
set_option maxHeartbeats 40000000 in
set_option maxRecDepth 100000 in
theorem closed : joinedFacts Tryz.pinned.checked.prog 3 Tryz.f3 (OpenSpec.ofChange Rows.fnTextsSpec).bare Rows.fnTextsRow = true := by
  unfold joinedFacts
  repeat' (with_reducible refine (Bool.and_eq_true _ _).mpr ⟨?_, ?_⟩)
  all_goals (as_aux_lemma => kernel_rfl)
theorem said : Rows.FnTextsSaid :=
  OpenClaim.holds_of_cond 3 Tryz.f3 rfl rfl rfl rfl rfl rfl rfl ⟨rfl, rfl, rfl, rfl, rfl⟩ rfl rfl rfl rfl rfl (by kernel_rfl) Tryz.func3 closed
    (of_decide_eq_true (by kernel_rfl)) (by unfold Func.isWrapper; first | (rw [if_pos (by decide +kernel)]; kernel_rfl) | (rw [if_neg (by decide +kernel)]; exact ⟨rfl, rfl⟩))
    (fun os started H enc _ F => by rw [OpenClaim.pre_eq_preRow]; exact lifted os started H enc F)
theorem plain (f : FuncId) (fn : Func) (hf : Tryz.pinned.checked.prog.funcNamed "loop.example/g00410/laws.FnTexts" = some f) (hfn : Tryz.pinned.checked.prog.funcs[f]? = some fn) :
    true = Tryz.pinned.checked.prog.looks [] ∧ ∀ (j : Nat) t, fn.params[j]? = some t → Tryz.pinned.checked.prog.wantsStandIn t = false := by
  obtain rfl : f = 3 := Option.some.inj ((show Tryz.prog.funcNamed "loop.example/g00410/laws.FnTexts" = some 3 by kernel_rfl).symm.trans hf) |>.symm
  obtain rfl : fn = Tryz.f3 := (Option.some.inj (Tryz.func3.symm.trans hfn)).symm
  refine ⟨by kernel_rfl, fun j t ht => ?_⟩
  rw [Tryz.params3] at ht
  have hm := Array.mem_of_getElem? ht
  simp at hm
  subst hm
  exact (show Tryz.prog.wantsStandIn 22 = false by kernel_rfl)
end Go.Proofs.YtjkdmhdehihcbaaGreatDoor.fnTexts
namespace Go.Proofs.YtjkdmhdehihcbaaGreatDoor
theorem fnTexts_holds : Rows.FnTextsCardSaid :=
  Claim7.holds_tied_plain_at .later [] _ _ _ _ fnTexts.said (fun _ h => by cases h) (by kernel_rfl) (fun _ h => by cases h) fnTexts_row_tie rfl ⟨rfl, rfl⟩ (by kernel_rfl) rfl fnTexts.plain (by kernel_rfl)
#print axioms fnTexts_holds
end Go.Proofs.YtjkdmhdehihcbaaGreatDoor
