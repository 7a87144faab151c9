/- Several texts laid together: PiD, PiF, PiI. -/
import Derived.Test.YtmeiionabonhnaaGreatDoorZAG
import Derived.Test.YtmeiionabonhnaaGreatDoorZAE
import Derived.Test.YtmeiionabonhnaaGreatDoorZAC
import Derived.Test.YtmeiionabonhnaaGreatDoorZAF
import Derived.Laws.CopyRow
import Derived.Laws.CopyOwn
import Derived.Deep.RegionHeld3
import Derived.Laws.OwnMore
import Derived.Deep.RegionWith
import Derived.Deep.RegionLaw
namespace Go.Proofs.YtmeiionabonhnaaGreatDoor
open Go.RowKit
set_option maxRecDepth 100000 in
set_option maxHeartbeats 2000000 in
theorem eq8 (a0 a1 a2 a3 a4 a5 a6 a7 b0 b1 b2 b3 b4 b5 b6 b7 : Int) (w : World) : (Op.equalIn 9999 148 (.agg #[.int .i64 a0, .int .i64 a1, .int .i64 a2, .int .i64 a3, .int .i64 a4, .int .i64 a5, .int .i64 a6, .int .i64 a7]) (.agg #[.int .i64 b0, .int .i64 b1, .int .i64 b2, .int .i64 b3, .int .i64 b4, .int .i64 b5, .int .i64 b6, .int .i64 b7])).run Tryz.prog w = .ok (decide ([a0, a1, a2, a3, a4, a5, a6, a7] = [b0, b1, b2, b3, b4, b5, b6, b7])) w := by
  have U3 := Tryz.underlying3
  have A3 := Tryz.isAgg3
  have Z3 := Tryz.sizeOf3
  rw [show (9999 : Nat) = 9998 + 1 from rfl, Op.equalIn]
  simp only [Sem.run_bind, run_underlying Tryz.underlying148, Result.andThen_ok]
  simp only [Std.Legacy.Range.forIn_eq_forIn_range', Std.Legacy.Range.size, Nat.sub_zero, Nat.add_sub_cancel, Nat.div_one, List.range'_succ, List.range'_zero, List.forIn_cons, List.forIn_nil]
  go_simp
  by_cases h0 : a0 = b0
  case neg => simp [h0]
  by_cases h1 : a1 = b1
  case neg => simp [h0, h1]
  by_cases h2 : a2 = b2
  case neg => simp [h0, h1, h2]
  by_cases h3 : a3 = b3
  case neg => simp [h0, h1, h2, h3]
  by_cases h4 : a4 = b4
  case neg => simp [h0, h1, h2, h3, h4]
  by_cases h5 : a5 = b5
  case neg => simp [h0, h1, h2, h3, h4, h5]
  by_cases h6 : a6 = b6
  case neg => simp [h0, h1, h2, h3, h4, h5, h6]
  by_cases h7 : a7 = b7
  case neg => simp [h0, h1, h2, h3, h4, h5, h6, h7]
  simp [h0, h1, h2, h3, h4, h5, h6, h7]
def inoEq (xs ys : List Int) : Bool := decide (xs = ys)
theorem inoEq_t {xs ys : List Int} (h : xs = ys) : inoEq xs ys = true := decide_eq_true h
theorem inoEq_f {xs ys : List Int} (h : ¬ xs = ys) : inoEq xs ys = false := decide_eq_false h
set_option maxRecDepth 100000 in
set_option maxHeartbeats 4000000 in
@[go_sem ↓] theorem eqIno (k s l a0 a1 a2 a3 a4 a5 a6 a7 k' s' l' b0 b1 b2 b3 b4 b5 b6 b7 : Int) (w : World) : (Op.equalIn 10000 150 (.agg #[.int .i64 k, .int .i64 s, .int .i64 l, .int .i64 a0, .int .i64 a1, .int .i64 a2, .int .i64 a3, .int .i64 a4, .int .i64 a5, .int .i64 a6, .int .i64 a7]) (.agg #[.int .i64 k', .int .i64 s', .int .i64 l', .int .i64 b0, .int .i64 b1, .int .i64 b2, .int .i64 b3, .int .i64 b4, .int .i64 b5, .int .i64 b6, .int .i64 b7])).run Tryz.prog w = .ok (inoEq [k, s, l, a0, a1, a2, a3, a4, a5, a6, a7] [k', s', l', b0, b1, b2, b3, b4, b5, b6, b7]) w := by
  have e8 := eq8 a0 a1 a2 a3 a4 a5 a6 a7 b0 b1 b2 b3 b4 b5 b6 b7 w
  unfold inoEq
  by_cases g0 : k = k'
  case neg => go_simp
  by_cases g1 : s = s'
  case neg => go_simp
  by_cases g2 : l = l'
  case neg => go_simp
  subst g0 g1 g2
  go_simp
  split
  · rename_i h
    rw [h]
  · rename_i h
    rw [Bool.not_eq_false] at h
    rw [h]
set_option maxRecDepth 100000 in
set_option maxHeartbeats 2000000 in
theorem isInode_any (x : Ino) (w : World) (hT : TS w) (hE : ED w) (hr : x.R) : Calls Tryz.prog 176 #[x.v] w fun e w' => e = .returned (.bool (inoB x)) ∧ Below w.heap.size w w' := by
  have hv : x.v = .agg x.cs.toArray := rfl
  have BW : Hid (Below w.heap.size w (w.alloc (.cells x.cs.toArray 150))) := (Below.refl _ _).alloc (Nat.le_refl _) _
  have CA : Hid (∀ j, (w.alloc (.cells x.cs.toArray 150)).cell? ⟨w.heap.size, j, none⟩ = x.cs[j]?) := fun j => (eight_at (xs := x.cs) (at_new rfl) j).1
  have T : Hid (TS (w.alloc (.cells x.cs.toArray 150))) := hT.below BW.out
  obtain ⟨d0, d1, d2, d3, d4, d5, d6, d7, d8, d9, d10⟩ := ED.cells (hE.below BW.out)
  obtain ⟨p0, p1, p2, p3, p4, p5, p6, p7, p8, p9, p10⟩ := Ino.all CA.out
  have LF := hideIt (fun w1 (h : TS w1) => isFile_any x w1 h hr)
  rw [hv]
  clear hT hE hr CA
  by_cases h0 : x.ns = [0, 0, 0, 0, 0, 0, 0, 0, 0, 0, 0]
  · have E := hideIt (ino_empty h0)
    have q1 : inoEq [x.kind, x.size, x.links, x.m0, x.m1, x.m2, x.m3, x.m4, x.m5, x.m6, x.m7] [0, 0, 0, 0, 0, 0, 0, 0, 0, 0, 0] = true := inoEq_t h0
    clear h0
    go_enter Tryz.func176, Tryz.ntmps176
    go_wp2
    go_ret
    exact ⟨ret_bool E.out.symm, BW.out⟩
  have q1 : inoEq [x.kind, x.size, x.links, x.m0, x.m1, x.m2, x.m3, x.m4, x.m5, x.m6, x.m7] [0, 0, 0, 0, 0, 0, 0, 0, 0, 0, 0] = false := inoEq_f h0
  by_cases h1 : x.ns = [2, 0, 1, 0, 0, 0, 0, 0, 0, 0, 0]
  · have E := hideIt (ino_dir h1)
    have q2 : inoEq [x.kind, x.size, x.links, x.m0, x.m1, x.m2, x.m3, x.m4, x.m5, x.m6, x.m7] [2, 0, 1, 0, 0, 0, 0, 0, 0, 0, 0] = true := inoEq_t h1
    clear h0 h1
    go_enter Tryz.func176, Tryz.ntmps176
    go_wp2
    go_ret
    exact ⟨ret_bool E.out.symm, BW.out⟩
  have q2 : inoEq [x.kind, x.size, x.links, x.m0, x.m1, x.m2, x.m3, x.m4, x.m5, x.m6, x.m7] [2, 0, 1, 0, 0, 0, 0, 0, 0, 0, 0] = false := inoEq_f h1
  have E := hideIt (ino_file h0 h1)
  clear h0 h1
  go_enter Tryz.func176, Tryz.ntmps176
  go_wp2_with fail
  refine (LF.out _ T.out).mono ?_
  rw [E.out]
  rintro e w1 ⟨rfl, hb1⟩
  have B1 := hideIt (below_trans BW.out hb1 BW.out.size)
  clear hb1
  go_wp2
  go_ret
  exact ⟨rfl, B1.out⟩
end Go.Proofs.YtmeiionabonhnaaGreatDoor

namespace Go.Proofs.YtmeiionabonhnaaGreatDoor
open Go.RowKit
def FD (w : World) : Prop := ∃ t fr, w.heap[1]? = some (.cells #[.int .i64 0, .string ⟨#[]⟩, .int .i64 (-1)] t fr)
theorem FD.lt {w : World} (h : FD w) : 1 < w.heap.size := by
  obtain ⟨t, fr, h⟩ := h
  exact (Array.getElem?_eq_some_iff.1 h).1
theorem FD.below {w w' : World} (h : FD w) (hb : Below w.heap.size w w') : FD w' := by
  have hl := h.lt
  obtain ⟨t, fr, h⟩ := h
  exact ⟨t, fr, (hb.block _ hl).trans h⟩
theorem FD.cells {w : World} (h : FD w) : w.cell? ⟨1, 0, none⟩ = some (.int .i64 0) ∧ w.cell? ⟨1, 1, none⟩ = some (.string ⟨#[]⟩) ∧ w.cell? ⟨1, 2, none⟩ = some (.int .i64 (-1)) := by
  obtain ⟨t, fr, h⟩ := h
  simp [World.cell?, h]
def denEq (a : Int) (s : ByteArray) (c a' : Int) (s' : ByteArray) (c' : Int) : Bool := (a == a') && ((s.toList == s'.toList) && (c == c'))
set_option maxRecDepth 100000 in
set_option maxHeartbeats 4000000 in
@[go_sem ↓] theorem eqDen (a : Int) (s : ByteArray) (c a' : Int) (s' : ByteArray) (c' : Int) (w : World) : (Op.equalIn 10000 140 (.agg #[.int .i64 a, .string s, .int .i64 c]) (.agg #[.int .i64 a', .string s', .int .i64 c'])).run Tryz.prog w = .ok (denEq a s c a' s' c') w := by
  unfold denEq
  cases g0 : (a == a')
  · go_simp
  cases g1 : (s.toList == s'.toList)
  · go_simp
  cases g2 : (c == c')
  · go_simp
  · go_simp
theorem empty_bytes : (⟨#[]⟩ : ByteArray).toList = [] := (noBytes _).2 rfl
theorem den_free (x : Den) : denEq x.dir x.name x.child 0 ⟨#[]⟩ (-1) = x.freeB := by
  unfold denEq Den.freeB
  congr 2
  rw [empty_bytes, Bool.eq_iff_iff, beq_iff_eq, beq_iff_eq]
  exact noBytes x.name
theorem Den.okB_free {x : Den} (h : x.freeB = true) : x.okB = true := by unfold Den.okB; rw [h]; rfl
theorem Den.okB_not {x : Den} (h : x.freeB = false) : x.okB = (decide (1 ≤ x.child ∧ x.child ≤ 15) && (decide (0 ≤ x.dir ∧ x.dir ≤ 15) && nmB x.name)) := by unfold Den.okB; rw [h, Bool.false_or]
theorem packC_name (s : ByteArray) : (packC s == 0) = nmB s := by
  unfold packC
  cases h : nmB s with
  | true =>
    have := (of_decide_eq_true h : 1 ≤ s.size ∧ s.size ≤ 6 ∧ _)
    rw [if_neg (by omega), if_pos rfl]; rfl
  | false =>
    split
    · rfl
    · rw [if_neg (by decide)]; rfl
theorem isShortName_any (s : ByteArray) (w : World) (hs : s.size ≤ maxLen) : Calls Tryz.prog 237 #[.string s] w fun e w' => e = .returned (.bool (nmB s)) ∧ Below w.heap.size w w' := by
  have P := hideIt (packC_name s)
  have LP := hideIt (fun w1 => implPackName_any s w1 hs)
  generalize packV s = pv at *
  generalize packC s = pc at *
  clear hs
  go_enter Tryz.func237, Tryz.ntmps237
  go_wp2_with fail
  refine (LP.out _).mono ?_
  rintro e w1 ⟨rfl, hb1⟩
  go_wp2
  go_ret
  exact ⟨ret_bool P.out, hb1⟩
set_option maxRecDepth 100000 in
set_option maxHeartbeats 4000000 in
theorem isDirent_any (x : Den) (w : World) (hF : FD w) (hs : x.name.size ≤ maxLen) : Calls Tryz.prog 180 #[x.v] w fun e w' => e = .returned (.bool x.okB) ∧ Below w.heap.size w w' := by
  have LN := hideIt (fun w1 => isShortName_any x.name w1 hs)
  have DF := den_free x
  have OF := @Den.okB_free x
  have ON := @Den.okB_not x
  obtain ⟨d, s, c⟩ := x
  simp only at LN DF ON hs
  unfold Den.v
  simp only
  have BW := hideIt ((Below.refl w.heap.size w).alloc (Nat.le_refl _) (.cells #[.int .i64 d, .string s, .int .i64 c] 140))
  have CB : Hid (∀ w', Below (w.alloc (.cells #[.int .i64 d, .string s, .int .i64 c] 140)).heap.size (w.alloc (.cells #[.int .i64 d, .string s, .int .i64 c] 140)) w' → w'.cell? ⟨w.heap.size, 0, none⟩ = some (.int .i64 d) ∧ w'.cell? ⟨w.heap.size, 1, none⟩ = some (.string s) ∧ w'.cell? ⟨w.heap.size, 2, none⟩ = some (.int .i64 c)) := fun w' hb => three_cells ((hb.block _ (by simp)).trans (at_new rfl))
  obtain ⟨x0, x1, x2⟩ := CB.out _ (Below.refl _ _)
  obtain ⟨f0, f1, f2⟩ := FD.cells (hF.below BW.out)
  clear hF hs
  cases h0 : (Den.mk d s c).freeB with
  | true =>
    rw [h0] at DF
    have E := hideIt (OF h0)
    clear OF ON LN CB h0
    go_enter Tryz.func180, Tryz.ntmps180
    go_wp2
    go_ret
    exact ⟨ret_bool E.out.symm, BW.out⟩
  | false =>
    rw [h0] at DF
    have E := hideIt (ON h0)
    clear OF ON h0
    cases h1 : nmB s with
    | false =>
      rw [h1] at E
      have N1 := hideIt h1
      clear h1 CB
      go_enter Tryz.func180, Tryz.ntmps180
      go_wp2_with fail
      refine (LN.out _).mono ?_
      rw [N1.out]
      rintro e w1 ⟨rfl, hb1⟩
      have B1 := hideIt (below_trans BW.out hb1 BW.out.size)
      clear hb1 x0 x1 x2 f0 f1 f2
      go_wp2
      go_ret
      exact ⟨ret_bool (by rw [E.out, Bool.and_false, Bool.and_false]), B1.out⟩
    | true =>
      rw [h1] at E
      have N1 := hideIt h1
      clear h1
      by_cases h2 : 0 ≤ d ∧ d < 16
      case neg =>
        have E2 := hideIt (show (Den.mk d s c).okB = false by rw [E.out, decide_eq_false (show ¬ (0 ≤ d ∧ d ≤ 15) by omega), Bool.false_and, Bool.and_false])
        have H2 := hideIt h2
        clear h2 E
        go_enter Tryz.func180, Tryz.ntmps180
        go_wp2_with fail
        refine (LN.out _).mono ?_
        rw [N1.out]
        rintro e w1 ⟨rfl, hb1⟩
        have B1 := hideIt (below_trans BW.out hb1 BW.out.size)
        clear x0 x1 x2 f0 f1 f2
        obtain ⟨x0, x1, x2⟩ := CB.out _ hb1
        clear hb1 CB
        go_wp2_with fail
        refine (isIndex_no _ _ _ H2.out).mono ?_
        rintro e w' ⟨rfl, hw'⟩
        subst w'
        go_wp2
        go_ret
        exact ⟨ret_bool E2.out.symm, B1.out⟩
      by_cases h3 : 0 ≤ c ∧ c < 16
      case neg =>
        have E2 := hideIt (show (Den.mk d s c).okB = false by rw [E.out, decide_eq_false (show ¬ (1 ≤ c ∧ c ≤ 15) by omega), Bool.false_and])
        have H2 := hideIt h2
        have H3 := hideIt h3
        clear h2 h3 E
        go_enter Tryz.func180, Tryz.ntmps180
        go_wp2_with fail
        refine (LN.out _).mono ?_
        rw [N1.out]
        rintro e w1 ⟨rfl, hb1⟩
        have B1 := hideIt (below_trans BW.out hb1 BW.out.size)
        clear x0 x1 x2 f0 f1 f2
        obtain ⟨x0, x1, x2⟩ := CB.out _ hb1
        clear hb1 CB
        go_wp2_with fail
        refine (isIndex_yes _ _ _ H2.out).mono ?_
        rintro e w' ⟨rfl, hw'⟩
        subst w'
        go_wp2_with fail
        refine (isIndex_no _ _ _ H3.out).mono ?_
        rintro e w' ⟨rfl, hw'⟩
        subst w'
        go_wp2
        go_ret
        exact ⟨ret_bool E2.out.symm, B1.out⟩
      have E2 := hideIt (show (Den.mk d s c).okB = (c != 0) by
        rw [E.out, decide_eq_true (show 0 ≤ d ∧ d ≤ 15 by omega)]
        by_cases h : c = 0
        · rw [h]; rfl
        · rw [decide_eq_true (show 1 ≤ c ∧ c ≤ 15 by omega), eq_comm]; simpa using h)
      have H2 := hideIt h2
      have H3 := hideIt h3
      clear h2 h3 E
      go_enter Tryz.func180, Tryz.ntmps180
      go_wp2_with fail
      refine (LN.out _).mono ?_
      rw [N1.out]
      rintro e w1 ⟨rfl, hb1⟩
      have B1 := hideIt (below_trans BW.out hb1 BW.out.size)
      clear x0 x1 x2 f0 f1 f2
      obtain ⟨x0, x1, x2⟩ := CB.out _ hb1
      clear hb1 CB
      go_wp2_with fail
      refine (isIndex_yes _ _ _ H2.out).mono ?_
      rintro e w' ⟨rfl, hw'⟩
      subst w'
      go_wp2_with fail
      refine (isIndex_yes _ _ _ H3.out).mono ?_
      rintro e w' ⟨rfl, hw'⟩
      subst w'
      go_wp2
      go_ret
      exact ⟨ret_bool E2.out.symm, B1.out⟩
end Go.Proofs.YtmeiionabonhnaaGreatDoor

namespace Go.Proofs.YtmeiionabonhnaaGreatDoor
open Go.RowKit
theorem rd_den (w1 : World) (x : Den) : Rd (w1.alloc (.cells #[.int .i64 x.dir, .string x.name, .int .i64 x.child] 140)) 3 (.slice (some ⟨w1.heap.size, 0, none⟩) 1 1) 1 (dens [x]) := by
  refine ⟨rfl, _, _, rfl, ⟨Nat.le_refl _, fun e => by cases e⟩, fun _ => ⟨w1.heap.size, 0, rfl, by simp, fun j hj => ?_⟩⟩
  obtain ⟨e0, e1, e2⟩ := three_cells (at_new (w := w1) (o := .cells #[.int .i64 x.dir, .string x.name, .int .i64 x.child] 140) rfl)
  rcases (show j = 0 ∨ j = 1 ∨ j = 2 by omega) with rfl | rfl | rfl
  · exact e0
  · exact e1
  · exact e2
theorem dens_ones (l : List Den) : ∀ u ∈ dens l, u.oneCell' = true := by
  intro u hu
  simp only [dens, List.mem_flatMap] at hu
  obtain ⟨m, _, hm⟩ := hu
  simp [Den.cells] at hm
  rcases hm with rfl | rfl | rfl <;> rfl
theorem dens_app (l l' : List Den) : dens (l ++ l') = dens l ++ dens l' := by simp [dens]
structure DnI (W w : World) (vL : Value) (ds : List Den) : Prop where
  l : w.ownsRow W.heap.size 140 3 vL ds.length (dens ds)
  b : Below W.heap.size W w
theorem DnI.z {W w : World} {vL : Value} {ds : List Den} (h : DnI W w vL ds) : W.heap.size ≤ w.heap.size := h.b.size
theorem DnI.below {W w w' : World} {vL : Value} {ds : List Den} (h : DnI W w vL ds) (hb : Below w.heap.size w w') : DnI W w' vL ds :=
  ⟨((own_block h.l).below hb (Nat.le_refl _)).1, below_trans h.b hb h.z⟩
theorem DnI.grow {W w w' : World} {vL v' : Value} {ds : List Den} (h : DnI W w vL ds) (ms : List Den) (ho : w'.ownsRow W.heap.size 140 3 v' (ds.length + ms.length) (dens ds ++ dens ms)) (hg : w.grownBy w' vL.ownBlock) : DnI W w' v' (ds ++ ms) :=
  ⟨by rw [dens_app, List.length_append]; exact ho, h.b.grown hg h.z (fun q hq => (h.l.lt q hq).1)⟩
def takenD (ps : List Den) : List Den := ps.filter fun x => !x.freeB
theorem taken_succ {ps : List Den} {k : Nat} (h : k < ps.length) : takenD (ps.take (k + 1)) = if ps[k].freeB = true then takenD (ps.take k) else takenD (ps.take k) ++ [ps[k]] := by
  unfold takenD
  rw [List.take_succ_eq_append_getElem h, List.filter_append]
  cases hf : ps[k].freeB <;> simp [hf]
theorem taken_len (ps : List Den) : (takenD ps).length ≤ ps.length := List.length_filter_le _ _
set_option maxRecDepth 100000 in
set_option maxHeartbeats 4000000 in
theorem takenDirents_any (v : Value) (ps : List Den) (w : World) (h : RdD w v ps) (hn : ps.length ≤ 4096) (hF : FD w) :
    Calls Tryz.prog 75 #[v] w fun e w' => ∃ v', e = .returned v' ∧ Row w' 140 3 w.heap.size w'.heap.size v' (takenD ps).length (dens (takenD ps)) ∧ Below w.heap.size w w' := by
  obtain ⟨aP, cP, rfl, _, hcP⟩ := h.shape
  have HP := hideIt hcP
  have F := hideIt hF
  clear h hcP hF
  go_enter Tryz.func75, Tryz.ntmps75
  go_wp2
  go_loopw [3, 5, 8] (fun vL _ i wr => ∃ k : Nat, k ≤ ps.length ∧ i = .int .i64 k ∧ Hid (DnI w wr vL (takenD (ps.take k))) ∧ w.heap.size ≤ wr.heap.size) (fun _ _ i _ => ps.length - (intOf i).toNat)
  case atStart => exact ⟨0, by omega, rfl, ⟨World.ownsRow_nil _ _ _ _, Below.refl _ _⟩, Nat.le_refl _⟩
  case round =>
    obtain ⟨k, hk, rfl, I, hz⟩ := hrel
    by_cases hlt : k < ps.length
    · obtain ⟨b, o, rfl, hbl, hcell⟩ := HP.out (by omega)
      obtain ⟨a0, a1, a2⟩ := hcell k hlt
      have d0 := (I.out.b.cell (p := ⟨b, o + k * 3, none⟩) hbl).trans a0
      have d1 := (I.out.b.cell (p := ⟨b, o + k * 3 + 1, none⟩) hbl).trans a1
      have d2 := (I.out.b.cell (p := ⟨b, o + k * 3 + 2, none⟩) hbl).trans a2
      have k0 : (0 : Int) ≤ (k : Int) := by omega
      have k1 : (k : Int) < (ps.length : Int) := by omega
      have TS := hideIt (taken_succ hlt)
      have TL := taken_len (ps.take k)
      rw [List.length_take] at TL
      have DF := den_free ps[k]
      clear a0 a1 a2 hcell
      generalize ps[k] = x at *
      have IB : Hid (DnI w (wr.alloc (.cells #[.int .i64 x.dir, .string x.name, .int .i64 x.child] 140)) u3 (takenD (ps.take k))) := I.out.below ((Below.refl _ _).alloc (Nat.le_refl _) _)
      obtain ⟨f0, f1, f2⟩ := FD.cells (F.out.below IB.out.b)
      have hzb := IB.out.z
      cases hf : x.freeB with
      | true =>
        have G : Hid (DnI w (wr.alloc (.cells #[.int .i64 x.dir, .string x.name, .int .i64 x.child] 140)) u3 (takenD (ps.take (k + 1)))) := by unfold Hid; rw [TS.out, if_pos hf]; exact IB.out
        rw [hf] at DF
        clear IB I TS hf TL
        go_wp2
        go_roundw
        case rel => exact ⟨k + 1, by omega, by go_num, G, hzb⟩
        case measure => simp [intOf]; omega
      | false =>
        have IC : Hid (DnI w ((wr.alloc (.cells #[.int .i64 x.dir, .string x.name, .int .i64 x.child] 140)).alloc (.cells #[.int .i64 x.dir, .string x.name, .int .i64 x.child] 140)) u3 (takenD (ps.take k))) := IB.out.below ((Below.refl _ _).alloc (Nat.le_refl _) _)
        have RC := hideIt (rd_den (wr.alloc (.cells #[.int .i64 x.dir, .string x.name, .int .i64 x.child] 140)) x)
        have hzc := IC.out.z
        have TN : Hid (takenD (ps.take (k + 1)) = takenD (ps.take k) ++ [x]) := by unfold Hid; rw [TS.out, if_neg (by rw [hf]; decide)]
        rw [hf] at DF
        rw [World.size_alloc] at RC
        clear IB I TS hf
        go_wp2_with (at_builtin; refine wpList_append_rd _ rfl (.tmp 15) (.tmp 17) 31 rfl w.heap.size 140 (.agg #[.int .i64 0, .string ⟨#[]⟩, .int .i64 0]) 3 32 Tryz.underlying31 infoDen rfl (by decide) _ _ _ rfl IC.out.l _ 1 _ rfl RC.out (dens_ones _) (by simp [maxLen]; omega) (by omega) (by omega) ?_)
        intro vN wN hownN hgrN
        have G := hideIt (IC.out.grow [x] hownN hgrN)
        rw [← TN.out] at G
        have hzN := G.out.z
        clear hownN hgrN IC RC
        go_wp2
        go_roundw
        case rel => exact ⟨k + 1, by omega, by go_num, G, hzN⟩
        case measure => simp [intOf]; omega
    · obtain rfl : k = ps.length := by omega
      have E := hideIt (show takenD (ps.take ps.length) = takenD ps by rw [List.take_length])
      rw [E.out] at I
      obtain ⟨-, aL, cL, hvL, -⟩ := (own_block I.out.l).rd
      subst hvL
      go_wp2
      go_ret
      exact ⟨_, rfl, own_block I.out.l, I.out.b⟩
end Go.Proofs.YtmeiionabonhnaaGreatDoor
