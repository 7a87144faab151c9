/- Inodes and entries held against each other: by the program. -/
import Derived.Test.YtihmihkhkmadmaaDoorZAJ
import Derived.Test.YtihmihkhkmadmaaDoorZAF
namespace Go.Proofs.YtihmihkhkmadmaaDoor
open Go.RowKit
set_option maxRecDepth 100000 in
set_option maxHeartbeats 2000000 in
theorem eq8 (a0 a1 a2 a3 a4 a5 a6 a7 b0 b1 b2 b3 b4 b5 b6 b7 : Int) (w : World) : (Op.equalIn 9999 72 (.agg #[.int .i64 a0, .int .i64 a1, .int .i64 a2, .int .i64 a3, .int .i64 a4, .int .i64 a5, .int .i64 a6, .int .i64 a7]) (.agg #[.int .i64 b0, .int .i64 b1, .int .i64 b2, .int .i64 b3, .int .i64 b4, .int .i64 b5, .int .i64 b6, .int .i64 b7])).run Tryd.prog w = .ok (decide ([a0, a1, a2, a3, a4, a5, a6, a7] = [b0, b1, b2, b3, b4, b5, b6, b7])) w := by
  have U3 := Tryd.underlying3
  have A3 := Tryd.isAgg3
  have Z3 := Tryd.sizeOf3
  rw [show (9999 : Nat) = 9998 + 1 from rfl, Op.equalIn]
  simp only [Sem.run_bind, run_underlying Tryd.underlying72, Result.andThen_ok]
  simp only [Std.Legacy.Range.forIn_eq_forIn_range', Std.Legacy.Range.size, Nat.sub_zero, Nat.add_sub_cancel, Nat.div_one, List.range'_succ, List.range'_zero, List.forIn_cons, List.forIn_nil]
  go_simp
  by_cases h0 : a0 = b0
  case neg => simp [h0]
  by_cases h1 : a1 = b1
  case neg => simp [h0, h1]
  by_cases h2 : a2 = b2
  case neg => simp [h0, h1, h2]
  by_cases h3 : a3 = b3
  case neg => simp [h0, h1, h2, h3]
  by_cases h4 : a4 = b4
  case neg => simp [h0, h1, h2, h3, h4]
  by_cases h5 : a5 = b5
  case neg => simp [h0, h1, h2, h3, h4, h5]
  by_cases h6 : a6 = b6
  case neg => simp [h0, h1, h2, h3, h4, h5, h6]
  by_cases h7 : a7 = b7
  case neg => simp [h0, h1, h2, h3, h4, h5, h6, h7]
  simp [h0, h1, h2, h3, h4, h5, h6, h7]
def inoEq (xs ys : List Int) : Bool := decide (xs = ys)
theorem inoEq_t {xs ys : List Int} (h : xs = ys) : inoEq xs ys = true := decide_eq_true h
theorem inoEq_f {xs ys : List Int} (h : ¬ xs = ys) : inoEq xs ys = false := decide_eq_false h
set_option maxRecDepth 100000 in
set_option maxHeartbeats 4000000 in
@[go_sem ↓] theorem eqIno (k s l a0 a1 a2 a3 a4 a5 a6 a7 k' s' l' b0 b1 b2 b3 b4 b5 b6 b7 : Int) (w : World) : (Op.equalIn 10000 74 (.agg #[.int .i64 k, .int .i64 s, .int .i64 l, .int .i64 a0, .int .i64 a1, .int .i64 a2, .int .i64 a3, .int .i64 a4, .int .i64 a5, .int .i64 a6, .int .i64 a7]) (.agg #[.int .i64 k', .int .i64 s', .int .i64 l', .int .i64 b0, .int .i64 b1, .int .i64 b2, .int .i64 b3, .int .i64 b4, .int .i64 b5, .int .i64 b6, .int .i64 b7])).run Tryd.prog w = .ok (inoEq [k, s, l, a0, a1, a2, a3, a4, a5, a6, a7] [k', s', l', b0, b1, b2, b3, b4, b5, b6, b7]) w := by
  have e8 := eq8 a0 a1 a2 a3 a4 a5 a6 a7 b0 b1 b2 b3 b4 b5 b6 b7 w
  unfold inoEq
  by_cases g0 : k = k'
  case neg => go_simp
  by_cases g1 : s = s'
  case neg => go_simp
  by_cases g2 : l = l'
  case neg => go_simp
  subst g0 g1 g2
  go_simp
  split
  · rename_i h
    rw [h]
  · rename_i h
    rw [Bool.not_eq_false] at h
    rw [h]
set_option maxRecDepth 100000 in
set_option maxHeartbeats 2000000 in
theorem isInode_any (x : Ino) (w : World) (hT : TS w) (hE : ED w) (hr : x.R) : Calls Tryd.prog 68 #[x.v] w fun e w' => e = .returned (.bool (inoB x)) ∧ Below w.heap.size w w' := by
  have hv : x.v = .agg x.cs.toArray := rfl
  have BW : Hid (Below w.heap.size w (w.alloc (.cells x.cs.toArray 74))) := (Below.refl _ _).alloc (Nat.le_refl _) _
  have CA : Hid (∀ j, (w.alloc (.cells x.cs.toArray 74)).cell? ⟨w.heap.size, j, none⟩ = x.cs[j]?) := fun j => (eight_at (xs := x.cs) (at_new rfl) j).1
  have T : Hid (TS (w.alloc (.cells x.cs.toArray 74))) := hT.below BW.out
  obtain ⟨d0, d1, d2, d3, d4, d5, d6, d7, d8, d9, d10⟩ := ED.cells (hE.below BW.out)
  obtain ⟨p0, p1, p2, p3, p4, p5, p6, p7, p8, p9, p10⟩ := Ino.all CA.out
  have LF := hideIt (fun w1 (h : TS w1) => isFile_any x w1 h hr)
  rw [hv]
  clear hT hE hr CA
  by_cases h0 : x.ns = [0, 0, 0, 0, 0, 0, 0, 0, 0, 0, 0]
  · have E := hideIt (ino_empty h0)
    have q1 : inoEq [x.kind, x.size, x.links, x.m0, x.m1, x.m2, x.m3, x.m4, x.m5, x.m6, x.m7] [0, 0, 0, 0, 0, 0, 0, 0, 0, 0, 0] = true := inoEq_t h0
    clear h0
    go_enter Tryd.func68, Tryd.ntmps68
    go_wp2
    go_ret
    exact ⟨ret_bool E.out.symm, BW.out⟩
  have q1 : inoEq [x.kind, x.size, x.links, x.m0, x.m1, x.m2, x.m3, x.m4, x.m5, x.m6, x.m7] [0, 0, 0, 0, 0, 0, 0, 0, 0, 0, 0] = false := inoEq_f h0
  by_cases h1 : x.ns = [2, 0, 1, 0, 0, 0, 0, 0, 0, 0, 0]
  · have E := hideIt (ino_dir h1)
    have q2 : inoEq [x.kind, x.size, x.links, x.m0, x.m1, x.m2, x.m3, x.m4, x.m5, x.m6, x.m7] [2, 0, 1, 0, 0, 0, 0, 0, 0, 0, 0] = true := inoEq_t h1
    clear h0 h1
    go_enter Tryd.func68, Tryd.ntmps68
    go_wp2
    go_ret
    exact ⟨ret_bool E.out.symm, BW.out⟩
  have q2 : inoEq [x.kind, x.size, x.links, x.m0, x.m1, x.m2, x.m3, x.m4, x.m5, x.m6, x.m7] [2, 0, 1, 0, 0, 0, 0, 0, 0, 0, 0] = false := inoEq_f h1
  have E := hideIt (ino_file h0 h1)
  clear h0 h1
  go_enter Tryd.func68, Tryd.ntmps68
  go_wp2_with fail
  refine (LF.out _ T.out).mono ?_
  rw [E.out]
  rintro e w1 ⟨rfl, hb1⟩
  have B1 := hideIt (below_trans BW.out hb1 BW.out.size)
  clear hb1
  go_wp2
  go_ret
  exact ⟨rfl, B1.out⟩
end Go.Proofs.YtihmihkhkmadmaaDoor
