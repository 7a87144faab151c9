/- The law of DevicesOK: the walk. -/
import Derived.Test.YtenadnlgjobmdakDevI
import Derived.Deep.DeepCutAuto
import Derived.Deep.RegionWith
namespace Go.Proofs.Ytenadnlgjobmdak
open Go.RowKit

set_option maxRecDepth 100000 in
set_option maxHeartbeats 4000000 in
theorem devicesOK_law (v : Value) (ws : List Int) (ps : List St) (es : List Int) (qs : List Se) (w : World) (h : RdDev w v ws ps es qs) (hw : ws.length ≤ maxLen) (hp : ps.length ≤ maxLen) (he : es.length ≤ maxLen) (hq : qs.length ≤ maxLen) :
    Calls Try.prog 5 #[v] w fun e w' => e = .returned (.bool true) ∧ Below w.heap.size w w' := by
  have HR0 := h
  obtain ⟨aW, cW, aP, cP, aS, cS, aQ, cQ, rfl, -, -⟩ := h.form
  have HR := hideIt HR0
  clear HR0 h
  have hb0 : Below w.heap.size w (w.alloc (.cells #[.slice aW ws.length cW, .slice aP ps.length cP, .slice aS es.length cS, .slice aQ qs.length cQ] 33)) := (Below.refl _ _).alloc (Nat.le_refl _) _
  by_cases c : 1048576 < ws.length + ps.length + es.length + qs.length
  · go_enter Try.func5, Try.ntmps5
    go_wp2_with fail
    refine (szDevices_any aW aP aS aQ ws.length ps.length es.length qs.length cW cP cS cQ _ hw hp he hq).mono ?_
    rw [if_pos c]
    rintro e w1 ⟨rfl, hb1⟩
    have B1 := hideIt (below_trans hb0 hb1 (by simp))
    clear hb0 hb1
    go_wp2
    go_ret
    exact ⟨rfl, B1.out⟩
  have E := hideIt (show (if 1048576 < ws.length + ps.length + es.length + qs.length then -1 else 1048576 - ws.length - ps.length - es.length - qs.length : Int) = 1048576 - ws.length - ps.length - es.length - qs.length from if_neg c)
  have hws : ws.length ≤ 1048576 := by omega
  have hps : ps.length ≤ 1048576 := by omega
  have hes : es.length ≤ 1048576 := by omega
  have hqs : qs.length ≤ 1048576 := by omega
  go_enter Try.func5, Try.ntmps5
  go_wp2_with fail
  refine (szDevices_any aW aP aS aQ ws.length ps.length es.length qs.length cW cP cS cQ _ hw hp he hq).mono ?_
  rw [E.out]
  rintro e w1 ⟨rfl, hb1⟩
  have hz1 : w.heap.size + 1 ≤ w1.heap.size := by have := hb1.size; simp at this; omega
  have Va_1 := hideIt ((hb1.block w.heap.size (by simp)).trans (at_new rfl))
  have B_1 := hideIt (below_trans hb0 hb1 (by simp))
  clear hb0 hb1
  obtain ⟨la0, la1, la2, la3, la4, la5, la6, la7⟩ := four_cells Va_1.out
  go_wp2_with fail
  refine (toDevices_any _ ws ps es qs _ (HR.out.below B_1.out) hws hps hes hqs).mono ?_
  rintro e w2 ⟨v2, rfl, hr2, hb2⟩
  obtain ⟨aW2, cW2, aP2, cP2, aS2, cS2, aQ2, cQ2, rfl, -, -⟩ := hr2.rd.form
  clear la0 la1 la2 la3 la4 la5 la6 la7
  have hz2 : w1.heap.size ≤ w2.heap.size := by have := hb2.size; first | omega | (simp only [World.size_alloc] at this; omega)
  have B_2 := hideIt (below_trans B_1.out hb2 (by first | omega | (simp only [World.size_alloc]; omega)))
  have Va_2 := hideIt ((hb2.block _ (by first | omega | (simp only [World.size_alloc]; omega))).trans Va_1.out)
  clear B_1 Va_1
  have R2_2 := hideIt hr2.rd
  clear hr2 hb2
  go_wp2_with fail
  refine (specDevicesOK_any _ ws ps es qs _ R2_2.out hws hps hes hqs).mono ?_
  rintro e w3 ⟨rfl, hb3⟩
  have hz3 : w2.heap.size ≤ w3.heap.size := by have := hb3.size; first | omega | (simp only [World.size_alloc] at this; omega)
  have B_3 := hideIt (below_trans B_2.out hb3 (by first | omega | (simp only [World.size_alloc]; omega)))
  have Va_3 := hideIt ((hb3.block _ (by first | omega | (simp only [World.size_alloc]; omega))).trans Va_2.out)
  have R2_3 := hideIt (R2_2.out.below hb3)
  clear B_2 Va_2 R2_2
  clear hb3
  obtain ⟨la0, la1, la2, la3, la4, la5, la6, la7⟩ := four_cells Va_3.out
  go_wp2_with fail
  refine (toDevices_any _ ws ps es qs _ (HR.out.below B_3.out) hws hps hes hqs).mono ?_
  rintro e w4 ⟨v4, rfl, hr4, hb4⟩
  obtain ⟨aW4, cW4, aP4, cP4, aS4, cS4, aQ4, cQ4, rfl, -, -⟩ := hr4.rd.form
  clear la0 la1 la2 la3 la4 la5 la6 la7
  have hz4 : w3.heap.size ≤ w4.heap.size := by have := hb4.size; first | omega | (simp only [World.size_alloc] at this; omega)
  have B_4 := hideIt (below_trans B_3.out hb4 (by first | omega | (simp only [World.size_alloc]; omega)))
  have Va_4 := hideIt ((hb4.block _ (by first | omega | (simp only [World.size_alloc]; omega))).trans Va_3.out)
  have R2_4 := hideIt (R2_3.out.below hb4)
  clear B_3 Va_3 R2_3
  have R4_4 := hideIt hr4.rd
  clear hr4 hb4
  have B_4b := hideIt (B_4.out.alloc (by omega) (.cells #[.slice aW4 ws.length cW4, .slice aP4 ps.length cP4, .slice aS4 es.length cS4, .slice aQ4 qs.length cQ4] 43))
  have Va_4b := hideIt (at_old (o := .cells #[.slice aW4 ws.length cW4, .slice aP4 ps.length cP4, .slice aS4 es.length cS4, .slice aQ4 qs.length cQ4] 43) Va_4.out)
  have R2_4b := hideIt (R2_4.out.below ((Below.refl _ _).alloc (Nat.le_refl _) (.cells #[.slice aW4 ws.length cW4, .slice aP4 ps.length cP4, .slice aS4 es.length cS4, .slice aQ4 qs.length cQ4] 43)))
  have R4_4b := hideIt (R4_4.out.below ((Below.refl _ _).alloc (Nat.le_refl _) (.cells #[.slice aW4 ws.length cW4, .slice aP4 ps.length cP4, .slice aS4 es.length cS4, .slice aQ4 qs.length cQ4] 43)))
  have Vx_4b : Hid ((w4.alloc (.cells #[.slice aW4 ws.length cW4, .slice aP4 ps.length cP4, .slice aS4 es.length cS4, .slice aQ4 qs.length cQ4] 43)).heap[w4.heap.size]? = some (.cells #[.slice aW4 ws.length cW4, .slice aP4 ps.length cP4, .slice aS4 es.length cS4, .slice aQ4 qs.length cQ4] 43 (0, 0))) := at_new rfl
  clear B_4 Va_4 R2_4 R4_4
  obtain ⟨lx0, lx1, lx2, lx3, lx4, lx5, lx6, lx7⟩ := four_cells Vx_4b.out
  go_wp2_with fail
  refine (implDevicesOK_any _ ws ps es qs _ R4_4b.out hws hps hes hqs).mono ?_
  rintro e w5 ⟨rfl, hb5⟩
  clear lx0 lx1 lx2 lx3 lx4 lx5 lx6 lx7
  have hz5 : w4.heap.size + 1 ≤ w5.heap.size := by have := hb5.size; first | omega | (simp only [World.size_alloc] at this; omega)
  have B_5 := hideIt (below_trans B_4b.out hb5 (by first | omega | (simp only [World.size_alloc]; omega)))
  have Va_5 := hideIt ((hb5.block _ (by first | omega | (simp only [World.size_alloc]; omega))).trans Va_4b.out)
  have Vx_5 := hideIt ((hb5.block _ (by first | omega | (simp only [World.size_alloc]; omega))).trans Vx_4b.out)
  have R2_5 := hideIt (R2_4b.out.below hb5)
  have R4_5 := hideIt (R4_4b.out.below hb5)
  clear B_4b Va_4b Vx_4b R2_4b R4_4b
  clear hb5
  obtain ⟨la0, la1, la2, la3, -, -, -, -⟩ := four_cells Va_5.out
  obtain ⟨lx0, lx1, lx2, lx3, -, -, -, -⟩ := four_cells Vx_5.out
  have hzz : w.heap.size ≤ w5.heap.size := B_5.out.size
  go_wp2_with fail
  go_region_with (first
    | (go_at_call 13; refine (toDevices_any _ ws ps es qs _ (by first | exact HR.out.below B_5.out.drew | exact HR.out.below B_5.out) hws hps hes hqs).mono ?_; rintro e w7 ⟨v7, rfl, hr7, hb7⟩; obtain ⟨aW7, cW7, aP7, cP7, aS7, cS7, aQ7, cQ7, rfl, -, -⟩ := hr7.rd.form; have R7 := hideIt hr7.rd; obtain ⟨y0, y1, y2, y3, -, -, -, -⟩ := four_cells ((hb7.block w4.heap.size (show w4.heap.size < w5.heap.size by omega)).trans Vx_5.out); clear hr7)
    | (go_at_call 15; refine (eqDevices_same _ _ ws ps es qs _ (by first | exact (R4_5.out.below ((Below.refl _ _).drew)).below ‹_› | exact R4_5.out.below ‹_›) R7.out (by omega) (by omega) (by omega) (by omega)).mono ?_; rintro e w8 ⟨rfl, hb8⟩))
  all_goals
    go_wp2
    go_ret
    have hz7 := hb7.size
    exact ⟨rfl, (below_trans B_5.out.drew hb7 hzz).trans (hb8.mono (Nat.le_trans hzz hz7))⟩
end Go.Proofs.Ytenadnlgjobmdak
