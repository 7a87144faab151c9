/- At every world impl.WorldAgrees answers as its model spec.WorldAgrees does, and the world is left as it was; no condition but that the listed variables are as the program lays them (the card ties them). -/
import Derived.Test.YtmeiionabonhnaaGreatDoorZBX
import Derived.Test.YtmeiionabonhnaaGreatDoorZBY
import Derived.Test.YtmeiionabonhnaaGreatDoorCards
import Derived.Test.YtmeiionabonhnaaGreatDoorTie
import Derived.ProofKit
import Derived.OpenShut
import Derived.ShutString
import Derived.ChangeOld
import Derived.Deep.DeepHandedRow
import Derived.Lib.LaidTab
namespace Go.Proofs.YtmeiionabonhnaaGreatDoor.fnExactWorldAgrees
open Go.ChangeShapes Go.WideShapes Go.ChangeAt Go.RowKit Go.Joins
open Go.ChangeMaps (open_string shut_string)
theorem g_stepBounds : Tryz.prog.globalNamed "loop.example/g00410/impl.stepBounds" = some 3 := by kernel_rfl
theorem t_stepBounds : (Tryz.prog.globals[3]?).map (·.type) = some 307 := by kernel_rfl
theorem v_stepBounds {W : World} {g : Nat} {t : TypeId} {cs : Array Value} {fuel : Nat} {p : List MemPlace} (hg : Tryz.prog.globalNamed "loop.example/g00410/impl.stepBounds" = some g) (ht : (Tryz.prog.globals[g]?).map (·.type) = some t) (hvar : W.var? Tryz.prog "loop.example/g00410/impl.stepBounds" = some cs)
    (hd : DataW.trod (fun _ => ()) Tryz.prog W 0 (fun _ => true) false fuel t cs.toList = some (Rows.laid_loop_example_g00410_impl_stepBounds, p)) : SB W := by
  obtain rfl := Option.some.inj (g_stepBounds.symm.trans hg)
  obtain rfl := Option.some.inj (t_stepBounds.symm.trans ht)
  have e : cs.toList = [.int .i64 0, .int .i64 0, .int .i64 336, .int .i64 1099511627776, .int .i64 336, .int .i64 1, .int .i64 1, .int .i64 1, .int .i64 32, .int .i64 1099511627776, .int .i64 1, .int .i64 1] := cells_sb (zs := [(0, 0), (336, 1099511627776), (336, 1), (1, 1), (32, 1099511627776), (1, 1)]) rfl hd
  simp only [World.var?, g_stepBounds, Option.bind_some] at hvar
  split at hvar
  · rename_i cs' t fr hh
    obtain rfl := Option.some.inj hvar
    refine ⟨t, fr, ?_⟩
    rw [hh]
    cases cs' with
    | mk l => simp only at e; rw [e]
  · cases hvar
theorem g_freeDirent : Tryz.prog.globalNamed "loop.example/g00410/impl.freeDirent" = some 1 := by kernel_rfl
theorem t_freeDirent : (Tryz.prog.globals[1]?).map (·.type) = some 140 := by kernel_rfl
theorem v_freeDirent {W : World} {g : Nat} {t : TypeId} {cs : Array Value} {fuel : Nat} {p : List MemPlace} (hg : Tryz.prog.globalNamed "loop.example/g00410/impl.freeDirent" = some g) (ht : (Tryz.prog.globals[g]?).map (·.type) = some t) (hvar : W.var? Tryz.prog "loop.example/g00410/impl.freeDirent" = some cs)
    (hd : DataW.trod (fun _ => ()) Tryz.prog W 0 (fun _ => true) false fuel t cs.toList = some (Rows.laid_loop_example_g00410_impl_freeDirent, p)) : FD W := by
  obtain rfl := Option.some.inj (g_freeDirent.symm.trans hg)
  obtain rfl := Option.some.inj (t_freeDirent.symm.trans ht)
  have e : cs.toList = [.int .i64 0, .string ⟨#[]⟩, .int .i64 (-1)] := cells_fd hd
  simp only [World.var?, g_freeDirent, Option.bind_some] at hvar
  split at hvar
  · rename_i cs' t fr hh
    obtain rfl := Option.some.inj hvar
    refine ⟨t, fr, ?_⟩
    rw [hh]
    cases cs' with
    | mk l => simp only at e; rw [e]
  · cases hvar
theorem g_emptyDir : Tryz.prog.globalNamed "loop.example/g00410/impl.emptyDir" = some 0 := by kernel_rfl
theorem t_emptyDir : (Tryz.prog.globals[0]?).map (·.type) = some 150 := by kernel_rfl
theorem v_emptyDir {W : World} {g : Nat} {t : TypeId} {cs : Array Value} {fuel : Nat} {p : List MemPlace} (hg : Tryz.prog.globalNamed "loop.example/g00410/impl.emptyDir" = some g) (ht : (Tryz.prog.globals[g]?).map (·.type) = some t) (hvar : W.var? Tryz.prog "loop.example/g00410/impl.emptyDir" = some cs)
    (hd : DataW.trod (fun _ => ()) Tryz.prog W 0 (fun _ => true) false fuel t cs.toList = some (Rows.laid_loop_example_g00410_impl_emptyDir, p)) : ED W := by
  obtain rfl := Option.some.inj (g_emptyDir.symm.trans hg)
  obtain rfl := Option.some.inj (t_emptyDir.symm.trans ht)
  have e : cs.toList = [.int .i64 2, .int .i64 0, .int .i64 1, .int .i64 0, .int .i64 0, .int .i64 0, .int .i64 0, .int .i64 0, .int .i64 0, .int .i64 0, .int .i64 0] := cells_ed hd
  simp only [World.var?, g_emptyDir, Option.bind_some] at hvar
  split at hvar
  · rename_i cs' t fr hh
    obtain rfl := Option.some.inj hvar
    refine ⟨t, fr, ?_⟩
    rw [hh]
    cases cs' with
    | mk l => simp only at e; rw [e]
  · cases hvar
theorem g_tierSizes : Tryz.prog.globalNamed "loop.example/g00410/impl.tierSizes" = some 6 := by kernel_rfl
theorem t_tierSizes : (Tryz.prog.globals[6]?).map (·.type) = some 332 := by kernel_rfl
theorem v_tierSizes {W : World} {g : Nat} {t : TypeId} {cs : Array Value} {fuel : Nat} {p : List MemPlace} (hg : Tryz.prog.globalNamed "loop.example/g00410/impl.tierSizes" = some g) (ht : (Tryz.prog.globals[g]?).map (·.type) = some t) (hvar : W.var? Tryz.prog "loop.example/g00410/impl.tierSizes" = some cs)
    (hd : DataW.trod (fun _ => ()) Tryz.prog W 0 (fun _ => true) false fuel t cs.toList = some (Rows.laid_loop_example_g00410_impl_tierSizes, p)) : TS W := by
  obtain rfl := Option.some.inj (g_tierSizes.symm.trans hg)
  obtain rfl := Option.some.inj (t_tierSizes.symm.trans ht)
  have e : cs.toList = [.int .i64 1, .int .i64 24, .int .i64 32] := cells_ts hd
  simp only [World.var?, g_tierSizes, Option.bind_some] at hvar
  split at hvar
  · rename_i cs' t fr hh
    obtain rfl := Option.some.inj hvar
    refine ⟨t, fr, ?_⟩
    rw [hh]
    cases cs' with
    | mk l => simp only at e; rw [e]
  · cases hvar
theorem g_noWrite : Tryz.prog.globalNamed "loop.example/g00410/impl.noWrite" = some 4 := by kernel_rfl
theorem t_noWrite : (Tryz.prog.globals[4]?).map (·.type) = some 276 := by kernel_rfl
theorem v_noWrite {W : World} {g : Nat} {t : TypeId} {cs : Array Value} {fuel : Nat} {p : List MemPlace} (hg : Tryz.prog.globalNamed "loop.example/g00410/impl.noWrite" = some g) (ht : (Tryz.prog.globals[g]?).map (·.type) = some t) (hvar : W.var? Tryz.prog "loop.example/g00410/impl.noWrite" = some cs)
    (hd : DataW.trod (fun _ => ()) Tryz.prog W 0 (fun _ => true) false fuel t cs.toList = some (Rows.laid_loop_example_g00410_impl_noWrite, p)) : NW W := by
  obtain rfl := Option.some.inj (g_noWrite.symm.trans hg)
  obtain rfl := Option.some.inj (t_noWrite.symm.trans ht)
  have e : cs.toList = [.int .i64 (-1), .int .i64 0] := cells_nw hd
  simp only [World.var?, g_noWrite, Option.bind_some] at hvar
  split at hvar
  · rename_i cs' t fr hh
    obtain rfl := Option.some.inj hvar
    refine ⟨t, fr, ?_⟩
    rw [hh]
    cases cs' with
    | mk l => simp only at e; rw [e]
  · cases hvar
theorem t_pow10 : (Tryz.prog.globals[5]?).map (·.type) = some 328 := by kernel_rfl
theorem v_pow10 {W : World} {g : Nat} {t : TypeId} {cs : Array Value} {fuel : Nat} {p : List MemPlace} (hg : Tryz.prog.globalNamed "internal/strconv.uint64pow10" = some g) (ht : (Tryz.prog.globals[g]?).map (·.type) = some t) (hvar : W.var? Tryz.prog "internal/strconv.uint64pow10" = some cs)
    (hd : DataW.trod (fun _ => ()) Tryz.prog W 0 (fun _ => true) false fuel t cs.toList = some (Rows.laid_internal_strconv_uint64pow10, p)) : PT W := by
  obtain rfl := Option.some.inj (g_pow10.symm.trans hg)
  obtain rfl := Option.some.inj (t_pow10.symm.trans ht)
  have e : cs.toList = Lib.pow10Tab.map fun z => Value.int .u64 z := Lib.cells_of_tab (n := 20) (e := 254) (by kernel_rfl) (by kernel_rfl) (by kernel_rfl) (by kernel_rfl) hd
  simp only [World.var?, g_pow10, Option.bind_some] at hvar
  split at hvar
  · rename_i cs' t fr hh
    obtain rfl := Option.some.inj hvar
    refine ⟨t, fr, ?_⟩
    rw [hh, ← e]
  · cases hvar
theorem nw {W : World} (h : laidMetH Tryz.prog Rows.fnExactWorldAgreesRow.laid W) : SB W ∧ FD W ∧ ED W ∧ TS W ∧ NW W ∧ PT W := by
  obtain ⟨ps, ⟨g0, t0, c0, f0, p0, q0, hg0, ht0, hv0, hd0, ⟨g1, t1, c1, f1, p1, q1, hg1, ht1, hv1, hd1, ⟨g2, t2, c2, f2, p2, q2, hg2, ht2, hv2, hd2, ⟨g3, t3, c3, f3, p3, q3, hg3, ht3, hv3, hd3, ⟨g4, t4, c4, f4, p4, q4, hg4, ht4, hv4, hd4, ⟨g5, t5, c5, f5, p5, q5, hg5, ht5, hv5, hd5, ⟨g6, t6, c6, f6, p6, q6, hg6, ht6, hv6, hd6, ⟨g7, t7, c7, f7, p7, q7, hg7, ht7, hv7, hd7, _, _⟩, _⟩, _⟩, _⟩, _⟩, _⟩, _⟩, _⟩, _⟩ := h
  exact ⟨v_stepBounds hg5 ht5 hv5 hd5, v_freeDirent hg7 ht7 hv7 hd7, v_emptyDir hg6 ht6 hv6 hd6, v_tierSizes hg4 ht4 hv4 hd4, v_noWrite hg3 ht3 hv3 hd3, v_pow10 hg2 ht2 hv2 hd2⟩
theorem lt_var {P : Program} {W : World} {n : String} {g : Nat} {cs : Array Value} (hg : P.globalNamed n = some g) (h : W.var? P n = some cs) : g < W.heap.size := by
  simp only [World.var?, hg, Option.bind_some] at h
  split at h
  · rename_i hh; exact (Array.getElem?_eq_some_iff.1 hh).1
  · cases h
theorem trodVars_cons {H : Type} {enc : TypeId × Value → H} {P : Program} {w : World} {spare : Nat → Bool} {n : String} {ns : List String} {gs : List (DataW H)} {ps : List MemPlace} (h : DataW.TrodVars enc P w spare (n :: ns) gs ps) :
    ∃ g t cs fuel d p q ds, gs = d :: ds ∧ P.globalNamed n = some g ∧ (P.globals[g]?).map (·.type) = some t ∧ w.var? P n = some cs ∧ DataW.trod enc P w 0 spare true fuel t cs.toList = some (d, p) ∧ DataW.TrodVars enc P w spare ns ds q := by
  cases gs with
  | nil => simp [DataW.TrodVars] at h
  | cons d ds =>
    obtain ⟨g, t, cs, fuel, p, q, h1, h2, h3, h4, hs, e⟩ := h
    exact ⟨g, t, cs, fuel, d, p, q, ds, rfl, h1, h2, h3, h4, hs⟩
set_option maxRecDepth 100000 in
theorem contract (H : Type) (enc : TypeId × Value → H) (W : World) (base : Nat) (args : Array Value) (ds gs : List (DataW H)) (before : List MemPlace)
    (hval : ∀ (j : Nat) t v, Tryz.f5.params[j]? = some t → args[j]? = some v → Value.okWide Tryz.prog W .any base t v)
    (hW : DataW.Whole enc Tryz.prog Tryz.f5.params.toList Rows.fnExactWorldAgreesSpec.vars false W args.toList ds gs before) (hL : laidMetH Tryz.prog Rows.fnExactWorldAgreesRow.laid W) :
    Calls Tryz.prog 5 args W fun e W' => ∃ v, e = .returned v ∧ Rows.fnExactWorldAgreesSpec.post enc Tryz.prog Tryz.f5 false true false false W args v W' := by
  obtain ⟨hSB, hFD, hED, hTS, hNW, hPT⟩ := nw hL
  have hW' := hW
  obtain ⟨p, q, hA0, hV, rfl, hfz, hnd⟩ := hW
  have hA : DataW.TrodAll enc Tryz.prog W 0 (fun _ => true) true Tryz.f5.params.toList args.toList ds p := hA0
  rw [Tryz.params5] at hA hval
  obtain ⟨v0, vs0, d0, ds0, p0, q0, hargs, rfl, rfl, h0, r0⟩ := trodAll_cons hA
  obtain ⟨rfl, rfl, rfl⟩ := trodAll_nil r0
  obtain rfl : args = #[v0] := by cases args; simp_all
  have k0 := h0
  have lt0 : ∀ x ∈ p0, x.block < W.heap.size := by obtain ⟨m, hm⟩ := k0; exact DataW.trod_lt m _ _ _ hm
  obtain ⟨ws0, ps0, es0, qs0, hs0, td0, cd0, vl0, nm0, fr0, ts0, ds0, ok0, op0, ot0, og0, ox0, az0, ag0, hW0, ⟨hB0, hZ0⟩, ⟨hts0, htg0, hds0, hdn0⟩, ⟨hop0, hot0⟩, haz0, hap0, han0⟩ := open_wd (hval 0 61 v0 rfl rfl) h0
  clear hA0
  refine (worldAgrees_law _ ws0 ps0 es0 qs0 hs0 td0 cd0 vl0 nm0 fr0 ts0 ds0 ok0 op0 ot0 og0 ox0 az0 ag0 W hW0 hB0 hZ0 hts0 htg0 hds0 hdn0 hop0 hot0 haz0 hap0 han0 hSB hTS hED hFD hNW hPT).mono fun e W' ⟨he, bel⟩ => ?_
  subst he
  obtain ⟨g0, t0, cs0, fu0, dd0, pp0, qq0, ds0v, rfl, hg0, hty0, hvar0, hd0, hV0⟩ := trodVars_cons hV
  obtain rfl := Option.some.inj (g_stepBounds.symm.trans hg0)
  obtain rfl := Option.some.inj (t_stepBounds.symm.trans hty0)
  have kd0 : DataW.Trod enc Tryz.prog W 0 (fun _ => true) true 307 (.agg cs0) dd0 pp0 := ⟨fu0, hd0⟩
  have ltd0 : ∀ x ∈ pp0, x.block < W.heap.size := DataW.trod_lt fu0 _ _ _ hd0
  obtain ⟨fe0, he0⟩ := Below.trod laidOut (by kernel_rfl) (of_decide_eq_true (by kernel_rfl)) kd0 bel ltd0
  obtain ⟨g1, t1, cs1, fu1, dd1, pp1, qq1, ds1v, rfl, hg1, hty1, hvar1, hd1, hV1⟩ := trodVars_cons hV0
  obtain rfl := Option.some.inj (g_freeDirent.symm.trans hg1)
  obtain rfl := Option.some.inj (t_freeDirent.symm.trans hty1)
  have kd1 : DataW.Trod enc Tryz.prog W 0 (fun _ => true) true 140 (.agg cs1) dd1 pp1 := ⟨fu1, hd1⟩
  have ltd1 : ∀ x ∈ pp1, x.block < W.heap.size := DataW.trod_lt fu1 _ _ _ hd1
  obtain ⟨fe1, he1⟩ := Below.trod laidOut (by kernel_rfl) (of_decide_eq_true (by kernel_rfl)) kd1 bel ltd1
  obtain ⟨g2, t2, cs2, fu2, dd2, pp2, qq2, ds2v, rfl, hg2, hty2, hvar2, hd2, hV2⟩ := trodVars_cons hV1
  obtain rfl := Option.some.inj (g_emptyDir.symm.trans hg2)
  obtain rfl := Option.some.inj (t_emptyDir.symm.trans hty2)
  have kd2 : DataW.Trod enc Tryz.prog W 0 (fun _ => true) true 150 (.agg cs2) dd2 pp2 := ⟨fu2, hd2⟩
  have ltd2 : ∀ x ∈ pp2, x.block < W.heap.size := DataW.trod_lt fu2 _ _ _ hd2
  obtain ⟨fe2, he2⟩ := Below.trod laidOut (by kernel_rfl) (of_decide_eq_true (by kernel_rfl)) kd2 bel ltd2
  obtain ⟨g3, t3, cs3, fu3, dd3, pp3, qq3, ds3v, rfl, hg3, hty3, hvar3, hd3, hV3⟩ := trodVars_cons hV2
  obtain rfl := Option.some.inj (g_tierSizes.symm.trans hg3)
  obtain rfl := Option.some.inj (t_tierSizes.symm.trans hty3)
  have kd3 : DataW.Trod enc Tryz.prog W 0 (fun _ => true) true 332 (.agg cs3) dd3 pp3 := ⟨fu3, hd3⟩
  have ltd3 : ∀ x ∈ pp3, x.block < W.heap.size := DataW.trod_lt fu3 _ _ _ hd3
  obtain ⟨fe3, he3⟩ := Below.trod laidOut (by kernel_rfl) (of_decide_eq_true (by kernel_rfl)) kd3 bel ltd3
  obtain ⟨g4, t4, cs4, fu4, dd4, pp4, qq4, ds4v, rfl, hg4, hty4, hvar4, hd4, hV4⟩ := trodVars_cons hV3
  obtain rfl := Option.some.inj (g_noWrite.symm.trans hg4)
  obtain rfl := Option.some.inj (t_noWrite.symm.trans hty4)
  have kd4 : DataW.Trod enc Tryz.prog W 0 (fun _ => true) true 276 (.agg cs4) dd4 pp4 := ⟨fu4, hd4⟩
  have ltd4 : ∀ x ∈ pp4, x.block < W.heap.size := DataW.trod_lt fu4 _ _ _ hd4
  obtain ⟨fe4, he4⟩ := Below.trod laidOut (by kernel_rfl) (of_decide_eq_true (by kernel_rfl)) kd4 bel ltd4
  obtain ⟨rfl, rfl⟩ := trodVars_none hV4
  exact ⟨_, rfl, _, _, _, [], _, _, hW', trodAll_mk1 (shut_bool Tryz.underlying4 _), (trodAll_cons_mk (Below.trod laidOut (by kernel_rfl) (of_decide_eq_true (by kernel_rfl)) k0 bel lt0) trodAll_mk0),
    ⟨_, _, _, fe0, _, _, g_stepBounds, t_stepBounds, var?_below bel g_stepBounds (lt_var g_stepBounds hvar0) hvar0, he0, ⟨_, _, _, fe1, _, _, g_freeDirent, t_freeDirent, var?_below bel g_freeDirent (lt_var g_freeDirent hvar1) hvar1, he1, ⟨_, _, _, fe2, _, _, g_emptyDir, t_emptyDir, var?_below bel g_emptyDir (lt_var g_emptyDir hvar2) hvar2, he2, ⟨_, _, _, fe3, _, _, g_tierSizes, t_tierSizes, var?_below bel g_tierSizes (lt_var g_tierSizes hvar3) hvar3, he3, ⟨_, _, _, fe4, _, _, g_noWrite, t_noWrite, var?_below bel g_noWrite (lt_var g_noWrite hvar4) hvar4, he4, rfl, rfl⟩, rfl⟩, rfl⟩, rfl⟩, rfl⟩, bel.frame _, fun h => by cases h⟩
noncomputable def laidWorld (os : Os) : World :=
  { World.holding Tryz.prog os ⟨#[], #[], []⟩ with heap := (((((((((World.holding Tryz.prog os ⟨#[], #[], []⟩).heap.modify 7 fun | .cells _ t frozen => .cells #[.int .u8 0, .int .u8 1, .int .u8 28, .int .u8 2, .int .u8 29, .int .u8 14, .int .u8 24, .int .u8 3, .int .u8 30, .int .u8 22, .int .u8 20, .int .u8 15, .int .u8 25, .int .u8 17, .int .u8 4, .int .u8 8, .int .u8 31, .int .u8 27, .int .u8 13, .int .u8 23, .int .u8 21, .int .u8 19, .int .u8 16, .int .u8 7, .int .u8 26, .int .u8 12, .int .u8 18, .int .u8 6, .int .u8 11, .int .u8 5, .int .u8 10, .int .u8 9] t frozen | o => o).modify 8 fun | .cells _ t frozen => .cells #[.int .u8 0, .int .u8 1, .int .u8 56, .int .u8 2, .int .u8 57, .int .u8 49, .int .u8 28, .int .u8 3, .int .u8 61, .int .u8 58, .int .u8 42, .int .u8 50, .int .u8 38, .int .u8 29, .int .u8 17, .int .u8 4, .int .u8 62, .int .u8 47, .int .u8 59, .int .u8 36, .int .u8 45, .int .u8 43, .int .u8 51, .int .u8 22, .int .u8 53, .int .u8 39, .int .u8 33, .int .u8 30, .int .u8 24, .int .u8 18, .int .u8 12, .int .u8 5, .int .u8 63, .int .u8 55, .int .u8 48, .int .u8 27, .int .u8 60, .int .u8 41, .int .u8 37, .int .u8 16, .int .u8 46, .int .u8 35, .int .u8 44, .int .u8 21, .int .u8 52, .int .u8 32, .int .u8 23, .int .u8 11, .int .u8 54, .int .u8 26, .int .u8 40, .int .u8 15, .int .u8 34, .int .u8 20, .int .u8 31, .int .u8 10, .int .u8 25, .int .u8 14, .int .u8 19, .int .u8 9, .int .u8 13, .int .u8 8, .int .u8 7, .int .u8 6] t frozen | o => o).modify 5 fun | .cells _ t frozen => .cells #[.int .u64 1, .int .u64 10, .int .u64 100, .int .u64 1000, .int .u64 10000, .int .u64 100000, .int .u64 1000000, .int .u64 10000000, .int .u64 100000000, .int .u64 1000000000, .int .u64 10000000000, .int .u64 100000000000, .int .u64 1000000000000, .int .u64 10000000000000, .int .u64 100000000000000, .int .u64 1000000000000000, .int .u64 10000000000000000, .int .u64 100000000000000000, .int .u64 1000000000000000000, .int .u64 10000000000000000000] t frozen | o => o).modify 4 fun | .cells _ t frozen => .cells #[.int .i64 (-1), .int .i64 0] t frozen | o => o).modify 6 fun | .cells _ t frozen => .cells #[.int .i64 1, .int .i64 24, .int .i64 32] t frozen | o => o).modify 3 fun | .cells _ t frozen => .cells #[.int .i64 0, .int .i64 0, .int .i64 336, .int .i64 1099511627776, .int .i64 336, .int .i64 1, .int .i64 1, .int .i64 1, .int .i64 32, .int .i64 1099511627776, .int .i64 1, .int .i64 1] t frozen | o => o).modify 0 fun | .cells _ t frozen => .cells #[.int .i64 2, .int .i64 0, .int .i64 1, .int .i64 0, .int .i64 0, .int .i64 0, .int .i64 0, .int .i64 0, .int .i64 0, .int .i64 0, .int .i64 0] t frozen | o => o).modify 1 fun | .cells _ t frozen => .cells #[.int .i64 0, .string ⟨#[]⟩, .int .i64 (-1)] t frozen | o => o) }
theorem laid_met (os : Os) : laidMet Tryz.prog Rows.fnExactWorldAgreesRow.laid ((laidWorld os).forCall (fun _ _ => 0) ⟨#[], #[.agg #[.slice none 0 0, .slice none 0 0, .slice none 0 0, .slice none 0 0, .slice none 0 0, .slice none 0 0, .int .i64 0, .int .i64 0, .slice none 0 0, .bool false, .slice none 0 0, .slice none 0 0, .int .i64 0, .string ⟨#[]⟩, .string ⟨#[]⟩, .int .i64 0, .int .i64 0, .slice none 0 0, .bool false]], []⟩).memory :=
  laidMet_of_run' 8 (by kernel_rfl) (by kernel_rfl)
theorem reads (os : Os) {H : Type} (enc : TypeId × Value → H) : ∃ x, DataW.whole enc Tryz.prog ((laidWorld os).forCall (fun _ _ => 0) ⟨#[], #[.agg #[.slice none 0 0, .slice none 0 0, .slice none 0 0, .slice none 0 0, .slice none 0 0, .slice none 0 0, .int .i64 0, .int .i64 0, .slice none 0 0, .bool false, .slice none 0 0, .slice none 0 0, .int .i64 0, .string ⟨#[]⟩, .string ⟨#[]⟩, .int .i64 0, .int .i64 0, .slice none 0 0, .bool false]], []⟩).memory Tryz.f5.params.toList Rows.fnExactWorldAgreesSpec.vars false (#[.agg #[.slice none 0 0, .slice none 0 0, .slice none 0 0, .slice none 0 0, .slice none 0 0, .slice none 0 0, .int .i64 0, .int .i64 0, .slice none 0 0, .bool false, .slice none 0 0, .slice none 0 0, .int .i64 0, .string ⟨#[]⟩, .string ⟨#[]⟩, .int .i64 0, .int .i64 0, .slice none 0 0, .bool false]] : Array Value).toList 8 = some x :=
  Option.isSome_iff_exists.1 (by kernel_rfl)
set_option maxRecDepth 100000 in
theorem lifted (os : Os) (started : os.Started) (H : Type) (enc : TypeId × Value → H) (F : Stop.Interp) :
    ReturnsInHanded {} Tryz.checked os 5 .any ((OpenSpec.ofChange Rows.fnExactWorldAgreesSpec).preRow enc Tryz.prog Tryz.f5 Rows.fnExactWorldAgreesRow.domain false Rows.fnExactWorldAgreesRow.laid) (((OpenSpec.ofChange Rows.fnExactWorldAgreesSpec).at F).post enc Tryz.prog Tryz.f5 false true false false) := by
  obtain ⟨x, hx⟩ := reads os enc
  refine returnsInHanded_of_row (C := Tryz.checked) (s := OpenSpec.ofChange Rows.fnExactWorldAgreesSpec) own started (by kernel_rfl) Tryz.func5
    (witness_row_at (enc := enc) (C := Tryz.checked) false (laidWorld os) #[.agg #[.slice none 0 0, .slice none 0 0, .slice none 0 0, .slice none 0 0, .slice none 0 0, .slice none 0 0, .int .i64 0, .int .i64 0, .slice none 0 0, .bool false, .slice none 0 0, .slice none 0 0, .int .i64 0, .string ⟨#[]⟩, .string ⟨#[]⟩, .int .i64 0, .int .i64 0, .slice none 0 0, .bool false]] rfl (by kernel_rfl) (by kernel_rfl) (by kernel_rfl)
      (OpenSpec.preRow_of_cond 8 hx rfl (fun k hk => by cases hk) (by kernel_rfl) (laid_met os))) ?_
  intro W base args ds gs before hval hW _ _ _ hL _ _
  exact contract H enc W base args ds gs before hval hW hL
set_option maxHeartbeats 40000000 in
set_option maxRecDepth 100000 in
theorem closed : joinedFacts Tryz.pinned.checked.prog 5 Tryz.f5 (OpenSpec.ofChange Rows.fnExactWorldAgreesSpec).bare Rows.fnExactWorldAgreesRow = true := by
  unfold joinedFacts
  repeat' (with_reducible refine (Bool.and_eq_true _ _).mpr ⟨?_, ?_⟩)
  all_goals (as_aux_lemma => kernel_rfl)
theorem said : Rows.FnExactWorldAgreesSaid :=
  OpenClaim.holds_of_cond 5 Tryz.f5 rfl rfl rfl rfl rfl rfl rfl ⟨rfl, rfl, rfl, rfl, rfl⟩ rfl rfl rfl rfl rfl (by kernel_rfl) Tryz.func5 closed
    (of_decide_eq_true (by kernel_rfl)) (by unfold Func.isWrapper; first | (rw [if_pos (by decide +kernel)]; kernel_rfl) | (rw [if_neg (by decide +kernel)]; exact ⟨rfl, rfl⟩))
    (fun os started H enc _ F => by rw [OpenClaim.pre_eq_preRow]; exact lifted os started H enc F)
theorem plain (f : FuncId) (fn : Func) (hf : Tryz.pinned.checked.prog.funcNamed "loop.example/g00410/laws.FnExactWorldAgrees" = some f) (hfn : Tryz.pinned.checked.prog.funcs[f]? = some fn) :
    false = Tryz.pinned.checked.prog.looks [] ∧ ∀ (j : Nat) t, fn.params[j]? = some t → Tryz.pinned.checked.prog.wantsStandIn t = false := by
  obtain rfl : f = 5 := Option.some.inj ((show Tryz.prog.funcNamed "loop.example/g00410/laws.FnExactWorldAgrees" = some 5 by kernel_rfl).symm.trans hf) |>.symm
  obtain rfl : fn = Tryz.f5 := (Option.some.inj (Tryz.func5.symm.trans hfn)).symm
  refine ⟨by kernel_rfl, fun j t ht => ?_⟩
  rw [Tryz.params5] at ht
  have hm := Array.mem_of_getElem? ht
  simp at hm
  subst hm
  exact (show Tryz.prog.wantsStandIn 61 = false by kernel_rfl)
end Go.Proofs.YtmeiionabonhnaaGreatDoor.fnExactWorldAgrees
namespace Go.Proofs.YtmeiionabonhnaaGreatDoor
theorem worldAgrees_exact : Rows.FnExactWorldAgreesCardSaid :=
  Claim7.holds_tied_plain_at .later [] _ _ _ _ fnExactWorldAgrees.said (fun _ h => by cases h) (by kernel_rfl) (fun _ h => by cases h) fnExactWorldAgrees_row_tie rfl ⟨rfl, rfl⟩ (by kernel_rfl) rfl fnExactWorldAgrees.plain (by kernel_rfl)
#print axioms worldAgrees_exact
end Go.Proofs.YtmeiionabonhnaaGreatDoor
