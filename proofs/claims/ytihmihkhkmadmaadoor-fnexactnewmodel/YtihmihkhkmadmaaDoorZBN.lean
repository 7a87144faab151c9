/- Several texts laid together: MdA, MdF. -/
import Derived.Test.YtihmihkhkmadmaaDoorThD
import Derived.Test.YtihmihkhkmadmaaDoorThC
import Derived.Test.YtihmihkhkmadmaaDoorZAF
import Derived.Deep.DeepCutAuto
import Derived.Test.YtihmihkhkmadmaaDoorZBI
import Derived.Deep.LoopGhost
namespace Go.Proofs.YtihmihkhkmadmaaDoor
open Go.RowKit
theorem RdTh.form {w : World} {v : Value} {ts : List Th} (h : RdTh w v ts) : ∃ ao cap, v = .slice ao ts.length cap := by
  obtain ⟨us, e, r⟩ := h
  obtain ⟨ao, cap, rfl, -⟩ := r.shape
  exact ⟨ao, cap, by rw [map_fst_len e]⟩
def RdMd (w : World) (v : Value) (ts : List Th) (ps : List Den) : Prop := ∃ vW vP, v = .agg #[vW, vP] ∧ RdTh w vW ts ∧ RdD w vP ps
def RowMd (w : World) (lo hi : Nat) (v : Value) (ts : List Th) (ps : List Den) : Prop := ∃ vW vP lt ut lp up, v = .agg #[vW, vP] ∧ RowTh w lt ut vW ts ∧ Row w 69 3 lp up vP ps.length (dens ps) ∧ lo ≤ lt ∧ ut ≤ hi ∧ lo ≤ lp ∧ up ≤ hi ∧ (ut ≤ lp ∨ up ≤ lt)
theorem RowMd.rd {w : World} {lo hi : Nat} {v : Value} {ts : List Th} {ps : List Den} (h : RowMd w lo hi v ts ps) : RdMd w v ts ps := by
  obtain ⟨vW, vP, lt, ut, lp, up, rfl, h1, h2, -⟩ := h
  exact ⟨vW, vP, rfl, h1.rd, h2.rd⟩
theorem RowMd.below {w w' : World} {lo hi : Nat} {v : Value} {ts : List Th} {ps : List Den} (h : RowMd w lo hi v ts ps) {B : Nat} (hb : Below B w w') (hB : hi ≤ B) : RowMd w' lo hi v ts ps := by
  obtain ⟨vW, vP, lt, ut, lp, up, rfl, h1, h2, q⟩ := h
  exact ⟨vW, vP, lt, ut, lp, up, rfl, h1.below hb (by omega), h2.below hb (by omega), q⟩
theorem RowMd.outside {w w' : World} {lo hi : Nat} {v : Value} {ts : List Th} {ps : List Den} (h : RowMd w lo hi v ts ps) {lo' hi' : Nat} (ho : Outside lo' hi' w w') (hd : hi ≤ lo' ∨ hi' ≤ lo) (hz : hi ≤ w.heap.size) : RowMd w' lo hi v ts ps := by
  obtain ⟨vW, vP, lt, ut, lp, up, rfl, h1, h2, q⟩ := h
  exact ⟨vW, vP, lt, ut, lp, up, rfl, h1.outside ho (by omega) (by omega), h2.outside ho (by omega) (by omega), q⟩
theorem RowMd.wide {w : World} {lo hi : Nat} {v : Value} {ts : List Th} {ps : List Den} (h : RowMd w lo hi v ts ps) {lo' hi' : Nat} (a : lo' ≤ lo) (b : hi ≤ hi') : RowMd w lo' hi' v ts ps := by
  obtain ⟨vW, vP, lt, ut, lp, up, rfl, h1, h2, q⟩ := h
  exact ⟨vW, vP, lt, ut, lp, up, rfl, h1, h2, by omega⟩
theorem RdMd.form {w : World} {v : Value} {ts : List Th} {ps : List Den} (h : RdMd w v ts ps) : ∃ aW cW aP cP, v = .agg #[.slice aW ts.length cW, .slice aP ps.length cP] := by
  obtain ⟨vW, vP, rfl, h1, h2⟩ := h
  obtain ⟨aW, cW, rfl⟩ := h1.form
  obtain ⟨aP, cP, rfl, -⟩ := h2.shape
  exact ⟨aW, cW, aP, cP, rfl⟩
set_option maxHeartbeats 2000000 in
theorem eqModel_same (va vb : Value) (ts : List Th) (ps : List Den) (w : World) (ha : RdMd w va ts ps) (hb : RdMd w vb ts ps) (hw : ts.length ≤ 2147483648) (hg : ∀ k (hk : k < ts.length), ts[k].pages.length ≤ 2147483648) (hp : ps.length ≤ 2147483648) :
    Calls Tryd.prog 7 #[va, vb] w fun e w' => e = .returned (.bool true) ∧ Below w.heap.size w w' := by
  obtain ⟨vW, vP, rfl, h1, h2⟩ := ha
  obtain ⟨uW, uP, rfl, h3, h4⟩ := hb
  obtain ⟨aW, cW, rfl⟩ := h1.form
  obtain ⟨aP, cP, rfl, _⟩ := h2.shape
  obtain ⟨bW, dW, rfl⟩ := h3.form
  obtain ⟨bP, dP, rfl, _⟩ := h4.shape
  have H1 := hideIt h1
  have H2 := hideIt h2
  have H3 := hideIt h3
  have H4 := hideIt h4
  clear h1 h2 h3 h4
  go_enter Tryd.func7, Tryd.ntmps7
  go_wp2_with fail
  have hb0 : Below w.heap.size w ((w.alloc (.cells #[.slice aW ts.length cW, .slice aP ps.length cP] 25)).alloc (.cells #[.slice bW ts.length dW, .slice bP ps.length dP] 25)) := by
    repeat (refine Below.alloc ?_ (by simp <;> omega) _)
    exact Below.refl _ _
  refine (eqThingS_same _ _ ts _ (H1.out.below hb0) (H3.out.below hb0) hw hg).mono ?_
  rintro e w1 ⟨rfl, hb1⟩
  have hz1 : w.heap.size + 2 ≤ w1.heap.size := by have := hb1.size; simp at this; omega
  have V0 := (hb1.block w.heap.size (by simp <;> omega)).trans (at_old (at_new rfl))
  have V1 := (hb1.block (w.heap.size + 1) (by simp <;> omega)).trans (at_new (by simp))
  have B1 := hb0.trans (hb1.mono (by simp <;> omega))
  obtain ⟨x1, x2, _, _⟩ := two_cells V0
  obtain ⟨y1, y2, _, _⟩ := two_cells V1
  clear hb0 hb1 V0 V1
  go_wp2_with fail
  refine (eqDirentS_same _ _ ps _ (Rd.below H2.out B1) (Rd.below H4.out B1) hp).mono ?_
  rintro e w2 ⟨rfl, hb2⟩
  go_wp2
  go_ret
  exact ⟨rfl, B1.trans (hb2.mono (by omega))⟩
end Go.Proofs.YtihmihkhkmadmaaDoor

namespace Go.Proofs.YtihmihkhkmadmaaDoor
open Go.RowKit
def ofT (ws : List Int) (ps : List St) (es : List Int) (qs : List Se) (x : Ino) : Th := ⟨x.kind, x.links, pgL ws ps es qs x x.size.toNat⟩
def ofL (ws : List Int) (ps : List St) (es : List Int) (qs : List Se) (ns : List Ino) : List Th := ns.map (ofT ws ps es qs)
theorem thv_ones (t : Th) (a : Option Addr) (n c : Nat) : ∀ u ∈ thv [(t, .slice a n c)], u.oneCell' = true := by
  intro u hu
  simp [thv, thc] at hu
  rcases hu with rfl | rfl | rfl <;> rfl
theorem rd_thing (w1 : World) (t : Th) (v : Value) : Rd (w1.alloc (.cells #[.int .i64 t.kind, .int .i64 t.links, v] 57)) 3 (.slice (some ⟨w1.heap.size, 0, none⟩) 1 1) 1 (thv [(t, v)]) := by
  refine ⟨rfl, _, _, rfl, ⟨Nat.le_refl _, fun e => by cases e⟩, fun _ => ⟨w1.heap.size, 0, rfl, by simp, fun j hj => ?_⟩⟩
  rw [Nat.zero_add]
  exact (eight_at (xs := thc (t, v)) (at_new rfl) j).1
theorem th_mdT : (57 : Nat) ≠ 25 := by decide
theorem in_mdT : (3 : Nat) ≠ 25 := by decide
theorem in_thT : (3 : Nat) ≠ 57 := by decide
theorem th_inT : (57 : Nat) ≠ 74 := by decide
end Go.Proofs.YtihmihkhkmadmaaDoor
