/- Several texts laid together: Wt, ImB, SecS, UpL, ImC. -/
import Derived.Test.YtihmihkhkmadmaaDoorZAB
import Derived.Deep.RegionWith
import Derived.Deep.RegionHeld3
import Derived.Laws.OwnMore
namespace Go.Proofs.YtihmihkhkmadmaaDoor
open Go.RowKit
def TS (w : World) : Prop := ∃ t fr, w.heap[3]? = some (.cells #[.int .i64 1, .int .i64 24, .int .i64 32] t fr)
theorem TS.lt {w : World} (h : TS w) : 3 < w.heap.size := by
  obtain ⟨t, fr, h⟩ := h
  exact (Array.getElem?_eq_some_iff.1 h).1
theorem TS.below {w w' : World} (h : TS w) (hb : Below w.heap.size w w') : TS w' := by
  have hl := h.lt
  obtain ⟨t, fr, h⟩ := h
  exact ⟨t, fr, (hb.block _ hl).trans h⟩
theorem TS.cells {w : World} (h : TS w) : w.cell? ⟨3, 0, none⟩ = some (.int .i64 1) ∧ w.cell? ⟨3, 1, none⟩ = some (.int .i64 24) ∧ w.cell? ⟨3, 2, none⟩ = some (.int .i64 32) := by
  obtain ⟨t, fr, h⟩ := h
  simp [World.cell?, h]
def addrB (t a : Int) : Bool := decide ((t = 0 ∧ a = 0) ∨ (t = 1 ∧ 0 ≤ a ∧ a < 24) ∨ (t = 2 ∧ 0 ≤ a ∧ a < 32))
theorem addrB_not {t a : Int} (h : ¬ ((t = 0 ∧ a = 0) ∨ (t = 1 ∧ 0 ≤ a ∧ a < 24) ∨ (t = 2 ∧ 0 ≤ a ∧ a < 32))) : addrB t a = false := decide_eq_false h
theorem addrB_true {t a : Int} (h : addrB t a = true) : (t = 0 ∧ a = 0) ∨ (t = 1 ∧ 0 ≤ a ∧ a < 24) ∨ (t = 2 ∧ 0 ≤ a ∧ a < 32) := of_decide_eq_true h
def tieB (e : Int) : Bool := decide (0 ≤ e) && addrB (e % 4) (e / 4)
def tieT (e : Int) : Int := if tieB e = true then e % 4 else 0
def tieA (e : Int) : Int := if tieB e = true then e / 4 else 0
def tieC (e : Int) : Int := if tieB e = true then 0 else 3
theorem tie_in {e : Int} (h : tieB e = true) : tieT e = e % 4 ∧ tieA e = e / 4 ∧ tieC e = 0 := by unfold tieT tieA tieC; rw [if_pos h, if_pos h, if_pos h]; exact ⟨rfl, rfl, rfl⟩
theorem tie_out {e : Int} (h : tieB e = false) : tieT e = 0 ∧ tieA e = 0 ∧ tieC e = 3 := by unfold tieT tieA tieC; rw [h]; exact ⟨rfl, rfl, rfl⟩
theorem addrB_neg {n : Int} (h : n < 0) : addrB (n.tmod 4) (n.tdiv 4) = false := by
  apply addrB_not
  obtain ⟨m, rfl⟩ : ∃ m : Int, n = -m := ⟨-n, by omega⟩
  rw [Int.neg_tmod, Int.neg_tdiv, Int.tmod_eq_emod_of_nonneg (by omega), Int.tdiv_eq_ediv_of_nonneg (by omega)]
  omega
theorem ret_three {a b c d e f : Int} (h : a = b) (k : c = d) (l : e = f) : Ending.returned (.tuple #[.int .i64 a, .int .i64 c, .int .i64 e]) = .returned (.tuple #[.int .i64 b, .int .i64 d, .int .i64 f]) := by rw [h, k, l]
theorem isAddress_yes (t a : Int) (w : World) (hT : TS w) (h : addrB t a = true) : Calls Tryd.prog 103 #[.int .i64 t, .int .i64 a] w fun e w' => e = .returned (.bool true) ∧ w' = w := by
  obtain ⟨x0, x1, x2⟩ := hT.cells
  clear hT
  rcases addrB_true h with ⟨rfl, rfl⟩ | ⟨rfl, h1, h2⟩ | ⟨rfl, h1, h2⟩
  all_goals
    clear h
    go_enter Tryd.func103, Tryd.ntmps103
    go_wp2_with (go_at_call 93; refine (isIndex_yes _ _ _ (by omega)).mono ?_; rintro e w' ⟨rfl, rfl⟩)
    go_ret
    exact ⟨rfl, rfl⟩
theorem isAddress_no (t a : Int) (w : World) (hT : TS w) (h : addrB t a = false) : Calls Tryd.prog 103 #[.int .i64 t, .int .i64 a] w fun e w' => e = .returned (.bool false) ∧ w' = w := by
  obtain ⟨x0, x1, x2⟩ := hT.cells
  have h' : ¬ ((t = 0 ∧ a = 0) ∨ (t = 1 ∧ 0 ≤ a ∧ a < 24) ∨ (t = 2 ∧ 0 ≤ a ∧ a < 32)) := of_decide_eq_false h
  clear hT h
  rcases (show (t = 0 ∧ ¬ (0 ≤ a ∧ a < 1)) ∨ (t = 1 ∧ ¬ (0 ≤ a ∧ a < 24)) ∨ (t = 2 ∧ ¬ (0 ≤ a ∧ a < 32)) ∨ ¬ (0 ≤ t ∧ t < 3) by omega) with ⟨rfl, ha⟩ | ⟨rfl, ha⟩ | ⟨rfl, ha⟩ | ha
  all_goals
    have H := hideIt ha
    clear h' ha
    go_enter Tryd.func103, Tryd.ntmps103
    go_wp2_with (first | (go_at_call 93; refine (isIndex_yes _ _ _ (by omega)).mono ?_; rintro e w' ⟨rfl, rfl⟩) | (go_at_call 93; refine (isIndex_no _ _ _ H.out).mono ?_; rintro e w' ⟨rfl, rfl⟩))
    go_ret
    exact ⟨rfl, rfl⟩
theorem implTierOf_any (n : Int) (w : World) (hT : TS w) (h0 : -9223372036854775808 ≤ n) (h1 : n ≤ 9223372036854775807) : Calls Tryd.prog 90 #[.int .i64 n] w fun e w' => e = .returned (.tuple #[.int .i64 (tieT n), .int .i64 (tieA n), .int .i64 (tieC n)]) ∧ w' = w := by
  have T := hideIt hT
  clear hT
  by_cases c0 : 0 ≤ n
  · by_cases c : addrB (n % 4) (n / 4) = true
    · have E := hideIt (tie_in (e := n) (by unfold tieB; rw [c, decide_eq_true c0]; rfl))
      have C := hideIt c
      clear c
      go_enter Tryd.func90, Tryd.ntmps90
      go_wp2_with (go_at_call 103; refine (isAddress_yes _ _ _ T.out C.out).mono ?_; rintro e w' ⟨rfl, rfl⟩)
      go_ret3
      exact ⟨ret_three (by rw [E.out.1]) (by rw [E.out.2.1]) E.out.2.2.symm, rfl⟩
    · have c' : addrB (n % 4) (n / 4) = false := by simpa using c
      have E := hideIt (tie_out (e := n) (by unfold tieB; rw [c']; simp))
      have C := hideIt c'
      clear c c'
      go_enter Tryd.func90, Tryd.ntmps90
      go_wp2_with (go_at_call 103; refine (isAddress_no _ _ _ T.out C.out).mono ?_; rintro e w' ⟨rfl, rfl⟩)
      go_ret3
      exact ⟨ret_three E.out.1.symm E.out.2.1.symm E.out.2.2.symm, rfl⟩
  · have E := hideIt (tie_out (e := n) (by unfold tieB; rw [decide_eq_false c0]; rfl))
    go_enter Tryd.func90, Tryd.ntmps90
    go_wp2_with (go_at_call 103; refine (isAddress_no _ _ _ T.out (addrB_neg (by omega))).mono ?_; rintro e w' ⟨rfl, rfl⟩)
    go_ret3
    exact ⟨ret_three E.out.1.symm E.out.2.1.symm E.out.2.2.symm, rfl⟩
end Go.Proofs.YtihmihkhkmadmaaDoor

namespace Go.Proofs.YtihmihkhkmadmaaDoor
open Go.RowKit
def entB (i : Nat) (z size : Int) : Bool := tieB z && (z == 0 || decide ((i : Int) < size))
def mapTo (zs : List Int) (size : Int) (k : Nat) : Prop := ∀ i, i < k → entB i (zs.getD i 0) size = true
def mapB (zs : List Int) (size : Int) : Bool := (List.range 8).all fun i => entB i (zs.getD i 0) size
theorem mapB_of {zs : List Int} {size : Int} (h : mapTo zs size 8) : mapB zs size = true := by
  unfold mapB
  rw [List.all_eq_true]
  intro i hi
  exact h i (List.mem_range.1 hi)
theorem mapB_to {zs : List Int} {size : Int} (h : mapB zs size = true) : mapTo zs size 8 := by
  unfold mapB at h
  rw [List.all_eq_true] at h
  intro i hi
  exact h i (List.mem_range.2 hi)
def kindB (x : Ino) : Bool := if x.kind = 0 then decide (x.size = 0 ∧ x.links = 0 ∧ x.map = [0, 0, 0, 0, 0, 0, 0, 0]) else if x.kind = 2 then x.size == 0 && x.links == 1 else decide (0 < x.links)
def inoB (x : Ino) : Bool := decide (0 ≤ x.kind ∧ x.kind ≤ 2) && (decide (0 ≤ x.size ∧ x.size ≤ 8) && (decide (0 ≤ x.links ∧ x.links ≤ 24) && (mapB x.map x.size && kindB x)))
def Ino.R (x : Ino) : Prop := ∀ z ∈ x.map, -9223372036854775808 ≤ z ∧ z ≤ 9223372036854775807
theorem Ino.len (x : Ino) : x.map.length = 8 := rfl
theorem Ino.at (x : Ino) (k : Nat) (hk : k < 8) : x.cs[3 + k]? = some (.int .i64 (x.map.getD k 0)) := by
  rcases (show k = 0 ∨ k = 1 ∨ k = 2 ∨ k = 3 ∨ k = 4 ∨ k = 5 ∨ k = 6 ∨ k = 7 by omega) with rfl | rfl | rfl | rfl | rfl | rfl | rfl | rfl <;> rfl
set_option maxRecDepth 100000 in
set_option maxHeartbeats 2000000 in
@[go_sem] theorem eqZero8 (m0 m1 m2 m3 m4 m5 m6 m7 : Int) (w : World) : (Op.equalIn 9999 72 (.agg #[.int .i64 m0, .int .i64 m1, .int .i64 m2, .int .i64 m3, .int .i64 m4, .int .i64 m5, .int .i64 m6, .int .i64 m7]) (.agg #[.int .i64 0, .int .i64 0, .int .i64 0, .int .i64 0, .int .i64 0, .int .i64 0, .int .i64 0, .int .i64 0])).run Tryd.prog w = .ok (decide ([m0, m1, m2, m3, m4, m5, m6, m7] = [0, 0, 0, 0, 0, 0, 0, 0])) w := by
  have u3 := Tryd.underlying3
  have a3 := Tryd.isAgg3
  have z3 := Tryd.sizeOf3
  rw [show (9999 : Nat) = 9998 + 1 from rfl, Op.equalIn]
  simp only [Sem.run_bind, run_underlying Tryd.underlying72, Result.andThen_ok]
  simp only [Std.Legacy.Range.forIn_eq_forIn_range', Std.Legacy.Range.size, Nat.sub_zero, Nat.add_sub_cancel, Nat.div_one, List.range'_succ, List.range'_zero, List.forIn_cons, List.forIn_nil]
  go_simp
  by_cases h0 : m0 = 0
  case neg => simp [h0]
  by_cases h1 : m1 = 0
  case neg => simp [h0, h1]
  by_cases h2 : m2 = 0
  case neg => simp [h0, h1, h2]
  by_cases h3 : m3 = 0
  case neg => simp [h0, h1, h2, h3]
  by_cases h4 : m4 = 0
  case neg => simp [h0, h1, h2, h3, h4]
  by_cases h5 : m5 = 0
  case neg => simp [h0, h1, h2, h3, h4, h5]
  by_cases h6 : m6 = 0
  case neg => simp [h0, h1, h2, h3, h4, h5, h6]
  by_cases h7 : m7 = 0
  case neg => simp [h0, h1, h2, h3, h4, h5, h6, h7]
  simp [h0, h1, h2, h3, h4, h5, h6, h7]
end Go.Proofs.YtihmihkhkmadmaaDoor

namespace Go.Proofs.YtihmihkhkmadmaaDoor
open Go.RowKit
structure Se where
  at_ : Int
  val : Int
deriving DecidableEq
def Se.cells (s : Se) : List Value := [.int .i64 s.at_, .int .i64 s.val]
def ses (ps : List Se) : List Value := ps.flatMap Se.cells
theorem Se.cells_len (s : Se) : s.cells.length = 2 := rfl
theorem ses_at0 (ps : List Se) (k : Nat) (h : k < ps.length) : (ses ps)[k * 2]? = some (.int .i64 ps[k].at_) := flatMap_at _ 2 Se.cells_len ps k 0 h (by omega)
theorem ses_at1 (ps : List Se) (k : Nat) (h : k < ps.length) : (ses ps)[k * 2 + 1]? = some (.int .i64 ps[k].val) := flatMap_at _ 2 Se.cells_len ps k 1 h (by omega)
def RdE (w : World) (v : Value) (ps : List Se) : Prop := Rd w 2 v ps.length (ses ps)
theorem RdE.shape {w : World} {v : Value} {ps : List Se} (h : RdE w v ps) : ∃ ao cap, v = .slice ao ps.length cap ∧ ps.length ≤ cap ∧ (0 < ps.length → ∃ b o, ao = some ⟨b, o, none⟩ ∧ b < w.heap.size ∧
    ∀ k (h : k < ps.length), w.cell? ⟨b, o + k * 2, none⟩ = some (.int .i64 ps[k].at_) ∧ w.cell? ⟨b, o + k * 2 + 1, none⟩ = some (.int .i64 ps[k].val)) := by
  obtain ⟨_, ao, cap, rfl, h2, h3⟩ := h
  refine ⟨ao, cap, rfl, h2.1, fun hn => ?_⟩
  obtain ⟨b, o, rfl, hb, hc⟩ := h3 hn
  exact ⟨b, o, rfl, hb, fun k hk => ⟨(hc (k * 2) (by omega)).trans (ses_at0 ps k hk), (hc (k * 2 + 1) (by omega)).trans (ses_at1 ps k hk)⟩⟩
end Go.Proofs.YtihmihkhkmadmaaDoor

namespace Go.Proofs.YtihmihkhkmadmaaDoor
open Go.RowKit
theorem infoUp : (Tryd.prog.info? 81).map (fun i => (i.zero, i.size, i.bytes)) = some (some (.agg #[.int .i64 0, .int .i64 0]), 2, 16) := by kernel_rfl
end Go.Proofs.YtihmihkhkmadmaaDoor

namespace Go.Proofs.YtihmihkhkmadmaaDoor
open Go.RowKit
theorem rd_upd (w1 : World) (x y : Int) : Rd (w1.alloc (.cells #[.int .i64 x, .int .i64 y] 81)) 2 (.slice (some ⟨w1.heap.size, 0, none⟩) 1 1) 1 (ses [⟨x, y⟩]) := by
  refine ⟨rfl, _, _, rfl, ⟨Nat.le_refl _, fun e => by cases e⟩, fun _ => ⟨w1.heap.size, 0, rfl, by simp, fun j hj => ?_⟩⟩
  obtain ⟨e0, e1, _, _⟩ := two_cells (at_new (w := w1) (o := .cells #[.int .i64 x, .int .i64 y] 81) rfl)
  rcases (show j = 0 ∨ j = 1 by omega) with rfl | rfl
  · exact e0
  · exact e1
theorem ses_ones (l : List Se) : ∀ u ∈ ses l, u.oneCell' = true := by
  intro u hu
  simp only [ses, List.mem_flatMap] at hu
  obtain ⟨m, _, hm⟩ := hu
  simp [Se.cells] at hm
  rcases hm with rfl | rfl <;> rfl
theorem ses_app (l l' : List Se) : ses (l ++ l') = ses l ++ ses l' := by simp [ses]
structure UpI (W w : World) (vL : Value) (ls : List Se) : Prop where
  l : w.ownsRow W.heap.size 81 2 vL ls.length (ses ls)
  b : Below W.heap.size W w
theorem UpI.z {W w : World} {vL : Value} {ls : List Se} (h : UpI W w vL ls) : W.heap.size ≤ w.heap.size := h.b.size
theorem UpI.below {W w w' : World} {vL : Value} {ls : List Se} (h : UpI W w vL ls) (hb : Below w.heap.size w w') : UpI W w' vL ls :=
  ⟨((own_block h.l).below hb (Nat.le_refl _)).1, below_trans h.b hb h.z⟩
theorem UpI.grow {W w w' : World} {vL v' : Value} {ls : List Se} (h : UpI W w vL ls) (ms : List Se) (ho : w'.ownsRow W.heap.size 81 2 v' (ls.length + ms.length) (ses ls ++ ses ms)) (hg : w.grownBy w' vL.ownBlock) : UpI W w' v' (ls ++ ms) :=
  ⟨by rw [ses_app, List.length_append]; exact ho, h.b.grown hg h.z (fun q hq => (h.l.lt q hq).1)⟩
def wrL (i : Int) (x : Ino) (k : Nat) : List Se := [⟨48 + 12 * i, x.kind⟩, ⟨48 + 12 * i + 1, x.size⟩, ⟨48 + 12 * i + 2, x.links⟩] ++ (List.range k).map (fun j => ⟨48 + 12 * i + (3 + (j : Int)), x.map.getD j 0⟩)
end Go.Proofs.YtihmihkhkmadmaaDoor
