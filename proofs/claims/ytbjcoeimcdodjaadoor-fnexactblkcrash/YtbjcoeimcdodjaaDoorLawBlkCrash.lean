/- The law of BlkCrash: the walk. -/
import Derived.Test.YtbjcoeimcdodjaaDoorBlkCrI
import Derived.Deep.DeepCutAuto
import Derived.Deep.RegionWith
namespace Go.Proofs.YtbjcoeimcdodjaaDoor
open Go.RowKit
set_option maxRecDepth 100000 in
set_option maxHeartbeats 8000000 in
theorem blkCrash_law (vW vP vZ : Value) (ws : List Int) (ps : List Se) (zs : List Int) (w : World) (h1 : RdI w vW ws) (h2 : RdE w vP ps) (h3 : RdI w vZ zs) (hG : NW w) (hw : ws.length ≤ maxLen) (hp : ps.length ≤ maxLen) (_hzl : zs.length ≤ maxLen) :
    Calls Tryd.prog 4 #[.agg #[vW, vP], vZ] w fun e w' => e = .returned (.bool true) ∧ Below w.heap.size w w' := by
  obtain ⟨aW, cW, rfl, _⟩ := h1.shape
  obtain ⟨aP, cP, rfl, _⟩ := h2.shape
  obtain ⟨aZ, cZ, rfl, _⟩ := h3.shape
  have HR : Hid (RdBlk w (.agg #[.slice aW ws.length cW, .slice aP ps.length cP]) ws ps) := ⟨_, _, rfl, h1, h2⟩
  have HZ := hideIt h3
  have HG := hideIt hG
  clear h1 h2 h3 hG
  have hb0 : Below w.heap.size w (w.alloc (.cells #[.slice aW ws.length cW, .slice aP ps.length cP] 45)) := (Below.refl _ _).alloc (Nat.le_refl _) _
  by_cases c0 : 1048576 < zs.length
  · go_enter Tryd.func4, Tryd.ntmps4
    go_wp2
    go_ret
    exact ⟨rfl, hb0⟩
  by_cases c : 1048576 < ws.length + ps.length
  · go_enter Tryd.func4, Tryd.ntmps4
    go_wp2_with fail
    refine (szBlk_any aW aP ws.length ps.length cW cP _ hw hp).mono ?_
    rw [if_pos c]
    rintro e w1 ⟨rfl, hb1⟩
    have B1 := hideIt (below_trans hb0 hb1 (by simp))
    clear hb0 hb1
    go_wp2
    go_ret
    exact ⟨rfl, B1.out⟩
  have E := hideIt (show (if 1048576 < ws.length + ps.length then -1 else 1048576 - ws.length - ps.length : Int) = 1048576 - ws.length - ps.length from if_neg c)
  have hws : ws.length ≤ 1048576 := by omega
  have hps : ps.length ≤ 1048576 := by omega
  have hzs : zs.length ≤ 1048576 := by omega
  have hd0 : (crashWE ws ps zs).length ≤ 2147483648 := Nat.le_trans (crashWE_len ws ps zs) (by omega)
  go_enter Tryd.func4, Tryd.ntmps4
  go_wp2_with fail
  refine (szBlk_any aW aP ws.length ps.length cW cP _ hw hp).mono ?_
  rw [E.out]
  rintro e w1 ⟨rfl, hb1⟩
  have hz1 : w.heap.size + 1 ≤ w1.heap.size := by have := hb1.size; simp at this; omega
  have Va_1 := hideIt ((hb1.block w.heap.size (by simp)).trans (at_new rfl))
  have B_1 := hideIt (below_trans hb0 hb1 (by simp))
  clear hb0 hb1
  obtain ⟨la0, la1, la2, la3⟩ := two_cells Va_1.out
  go_wp2_with fail
  refine (toBlk_any _ ws ps _ (HR.out.below B_1.out) hws hps).mono ?_
  rintro e w2 ⟨v2, rfl, hr2, hb2⟩
  obtain ⟨vW2, vP2, rfl, hI2, hS2⟩ := hr2.rd
  obtain ⟨aW2, cW2, rfl⟩ := hI2.form rfl
  obtain ⟨aP2, cP2, rfl⟩ := hS2.form rfl
  have hz2 : w1.heap.size ≤ w2.heap.size := by have := hb2.size; first | omega | (simp only [World.size_alloc] at this; omega)
  have B_2 := hideIt (below_trans B_1.out hb2 (by first | omega | (simp only [World.size_alloc]; omega)))
  have Va_2 := hideIt ((hb2.block _ (by first | omega | (simp only [World.size_alloc]; omega))).trans Va_1.out)
  have R2_2 := hideIt (hr2.wide (lo' := w1.heap.size) (hi' := w2.heap.size) (by first | omega | (simp only [World.size_alloc]; omega)) (Nat.le_refl _))
  clear la0 la1 la2 la3 hI2 hS2 hr2 hb2
  go_wp2_with fail
  refine (toIntS_any _ zs _ (Rd.below HZ.out B_2.out) hzs).mono ?_
  rintro e w2z ⟨v2z, rfl, hr2z, hb2z⟩
  obtain ⟨aZ2z, cZ2z, rfl⟩ := RdI.form hr2z.rd rfl
  have hz2z : w2.heap.size ≤ w2z.heap.size := by have := hb2z.size; first | omega | (simp only [World.size_alloc] at this; omega)
  have B_2z := hideIt (below_trans B_2.out hb2z (by first | omega | (simp only [World.size_alloc]; omega)))
  have Va_2z := hideIt ((hb2z.block _ (by first | omega | (simp only [World.size_alloc]; omega))).trans Va_2.out)
  have R2_2z := hideIt (R2_2.out.below hb2z (by first | omega | (simp only [World.size_alloc]; omega)))
  have R2z_2z := hideIt (hr2z.wide (lo' := w2.heap.size) (hi' := w2z.heap.size) (by first | omega | (simp only [World.size_alloc]; omega)) (Nat.le_refl _))
  clear hr2z hb2z
  go_wp2_with fail
  refine (specBlkCrash_any _ _ ws ps zs _ R2_2z.out.rd R2z_2z.out.rd hws hps hzs).mono ?_
  rintro e w3 ⟨v3, rfl, hr3, hb3⟩
  obtain ⟨vW3, vP3, rfl, hI3, hS3⟩ := hr3.rd
  obtain ⟨aW3, cW3, rfl⟩ := hI3.form rfl
  obtain ⟨aP3, cP3, rfl⟩ := hS3.form (n := 0) rfl
  have hz3 : w2z.heap.size ≤ w3.heap.size := by have := hb3.size; first | omega | (simp only [World.size_alloc] at this; omega)
  have B_3 := hideIt (below_trans B_2z.out hb3 (by first | omega | (simp only [World.size_alloc]; omega)))
  have Va_3 := hideIt ((hb3.block _ (by first | omega | (simp only [World.size_alloc]; omega))).trans Va_2z.out)
  have R2_3 := hideIt (R2_2z.out.below hb3 (by first | omega | (simp only [World.size_alloc]; omega)))
  have R2z_3 := hideIt (R2z_2z.out.below hb3 (by first | omega | (simp only [World.size_alloc]; omega)))
  have R3_3 := hideIt (hr3.wide (lo' := w2z.heap.size) (hi' := w3.heap.size) (by first | omega | (simp only [World.size_alloc]; omega)) (Nat.le_refl _))
  clear hI3 hS3 hr3 hb3
  have B_3b := hideIt (B_3.out.alloc (by omega) (.cells #[.slice aW3 (crashWE ws ps zs).length cW3, .slice aP3 0 cP3] 26))
  have Va_3b := hideIt (at_old (o := .cells #[.slice aW3 (crashWE ws ps zs).length cW3, .slice aP3 0 cP3] 26) Va_3.out)
  have R2_3b := hideIt (R2_3.out.alloc (by omega) (.cells #[.slice aW3 (crashWE ws ps zs).length cW3, .slice aP3 0 cP3] 26))
  have R2z_3b := hideIt (R2z_3.out.alloc (by omega) (.cells #[.slice aW3 (crashWE ws ps zs).length cW3, .slice aP3 0 cP3] 26))
  have R3_3b := hideIt (R3_3.out.alloc (by omega) (.cells #[.slice aW3 (crashWE ws ps zs).length cW3, .slice aP3 0 cP3] 26))
  have Vs_3b : Hid ((w3.alloc (.cells #[.slice aW3 (crashWE ws ps zs).length cW3, .slice aP3 0 cP3] 26)).heap[w3.heap.size]? = some (.cells #[.slice aW3 (crashWE ws ps zs).length cW3, .slice aP3 0 cP3] 26 (0, 0))) := at_new rfl
  obtain ⟨la0, la1, la2, la3⟩ := two_cells Va_3b.out
  go_wp2_with fail
  refine (toBlk_any _ ws ps _ (HR.out.below B_3b.out) hws hps).mono ?_
  rintro e w4 ⟨v4, rfl, hr4, hb4⟩
  obtain ⟨vW4, vP4, rfl, hI4, hS4⟩ := hr4.rd
  obtain ⟨aW4, cW4, rfl⟩ := hI4.form rfl
  obtain ⟨aP4, cP4, rfl⟩ := hS4.form rfl
  have hz4 : w3.heap.size + 1 ≤ w4.heap.size := by have := hb4.size; first | omega | (simp only [World.size_alloc] at this; omega)
  have B_4 := hideIt (below_trans B_3b.out hb4 (by first | omega | (simp only [World.size_alloc]; omega)))
  have Va_4 := hideIt ((hb4.block _ (by first | omega | (simp only [World.size_alloc]; omega))).trans Va_3b.out)
  have Vs_4 := hideIt ((hb4.block _ (by first | omega | (simp only [World.size_alloc]; omega))).trans Vs_3b.out)
  have R2_4 := hideIt (R2_3b.out.below hb4 (by first | omega | (simp only [World.size_alloc]; omega)))
  have R2z_4 := hideIt (R2z_3b.out.below hb4 (by first | omega | (simp only [World.size_alloc]; omega)))
  have R3_4 := hideIt (R3_3b.out.below hb4 (by first | omega | (simp only [World.size_alloc]; omega)))
  have R4_4 := hideIt (hr4.wide (lo' := w3.heap.size + 1) (hi' := w4.heap.size) (by first | omega | (simp only [World.size_alloc]; omega)) (Nat.le_refl _))
  clear la0 la1 la2 la3 hI4 hS4 hr4 hb4
  have B_4b := hideIt (B_4.out.alloc (by omega) (.cells #[.slice aW4 ws.length cW4, .slice aP4 ps.length cP4] 26))
  have Va_4b := hideIt (at_old (o := .cells #[.slice aW4 ws.length cW4, .slice aP4 ps.length cP4] 26) Va_4.out)
  have Vs_4b := hideIt (at_old (o := .cells #[.slice aW4 ws.length cW4, .slice aP4 ps.length cP4] 26) Vs_4.out)
  have R2_4b := hideIt (R2_4.out.alloc (by omega) (.cells #[.slice aW4 ws.length cW4, .slice aP4 ps.length cP4] 26))
  have R2z_4b := hideIt (R2z_4.out.alloc (by omega) (.cells #[.slice aW4 ws.length cW4, .slice aP4 ps.length cP4] 26))
  have R3_4b := hideIt (R3_4.out.alloc (by omega) (.cells #[.slice aW4 ws.length cW4, .slice aP4 ps.length cP4] 26))
  have R4_4b := hideIt (R4_4.out.alloc (by omega) (.cells #[.slice aW4 ws.length cW4, .slice aP4 ps.length cP4] 26))
  have Vx_4b : Hid ((w4.alloc (.cells #[.slice aW4 ws.length cW4, .slice aP4 ps.length cP4] 26)).heap[w4.heap.size]? = some (.cells #[.slice aW4 ws.length cW4, .slice aP4 ps.length cP4] 26 (0, 0))) := at_new rfl
  go_wp2_with fail
  refine (toIntS_any _ zs _ (Rd.below HZ.out B_4b.out) hzs).mono ?_
  rintro e w4z ⟨v4z, rfl, hr4z, hb4z⟩
  obtain ⟨aZ4z, cZ4z, rfl⟩ := RdI.form hr4z.rd rfl
  have hz4z : w4.heap.size + 1 ≤ w4z.heap.size := by have := hb4z.size; first | omega | (simp only [World.size_alloc] at this; omega)
  have B_4z := hideIt (below_trans B_4b.out hb4z (by first | omega | (simp only [World.size_alloc]; omega)))
  have Va_4z := hideIt ((hb4z.block _ (by first | omega | (simp only [World.size_alloc]; omega))).trans Va_4b.out)
  have Vs_4z := hideIt ((hb4z.block _ (by first | omega | (simp only [World.size_alloc]; omega))).trans Vs_4b.out)
  have Vx_4z := hideIt ((hb4z.block _ (by first | omega | (simp only [World.size_alloc]; omega))).trans Vx_4b.out)
  have R2_4z := hideIt (R2_4b.out.below hb4z (by first | omega | (simp only [World.size_alloc]; omega)))
  have R2z_4z := hideIt (R2z_4b.out.below hb4z (by first | omega | (simp only [World.size_alloc]; omega)))
  have R3_4z := hideIt (R3_4b.out.below hb4z (by first | omega | (simp only [World.size_alloc]; omega)))
  have R4_4z := hideIt (R4_4b.out.below hb4z (by first | omega | (simp only [World.size_alloc]; omega)))
  have R4z_4z := hideIt (hr4z.wide (lo' := w4.heap.size + 1) (hi' := w4z.heap.size) (by first | omega | (simp only [World.size_alloc]; omega)) (Nat.le_refl _))
  clear hr4z hb4z
  obtain ⟨lx0, lx1, lx2, lx3⟩ := two_cells Vx_4z.out
  go_wp2_with fail
  refine (implBlkCrash_any _ _ ws ps zs _ R4_4z.out.rd R4z_4z.out.rd (HG.out.below B_4z.out) hws hps hzs).mono ?_
  rintro e w5 ⟨v5, rfl, hr5, hb5⟩
  obtain ⟨vW5, vP5, rfl, hI5, hS5⟩ := hr5.rd
  obtain ⟨aW5, cW5, rfl⟩ := hI5.form rfl
  obtain ⟨aP5, cP5, rfl⟩ := hS5.form (n := 0) rfl
  have hz5 : w4z.heap.size ≤ w5.heap.size := by have := hb5.size; first | omega | (simp only [World.size_alloc] at this; omega)
  have B_5 := hideIt (below_trans B_4z.out hb5 (by first | omega | (simp only [World.size_alloc]; omega)))
  have Va_5 := hideIt ((hb5.block _ (by first | omega | (simp only [World.size_alloc]; omega))).trans Va_4z.out)
  have Vs_5 := hideIt ((hb5.block _ (by first | omega | (simp only [World.size_alloc]; omega))).trans Vs_4z.out)
  have Vx_5 := hideIt ((hb5.block _ (by first | omega | (simp only [World.size_alloc]; omega))).trans Vx_4z.out)
  have R2_5 := hideIt (R2_4z.out.below hb5 (by first | omega | (simp only [World.size_alloc]; omega)))
  have R2z_5 := hideIt (R2z_4z.out.below hb5 (by first | omega | (simp only [World.size_alloc]; omega)))
  have R3_5 := hideIt (R3_4z.out.below hb5 (by first | omega | (simp only [World.size_alloc]; omega)))
  have R4_5 := hideIt (R4_4z.out.below hb5 (by first | omega | (simp only [World.size_alloc]; omega)))
  have R4z_5 := hideIt (R4z_4z.out.below hb5 (by first | omega | (simp only [World.size_alloc]; omega)))
  have R5_5 := hideIt (hr5.wide (lo' := w4z.heap.size) (hi' := w5.heap.size) (by first | omega | (simp only [World.size_alloc]; omega)) (Nat.le_refl _))
  clear lx0 lx1 lx2 lx3 hI5 hS5 hr5 hb5
  have B_5b := hideIt (B_5.out.alloc (by omega) (.cells #[.slice aW5 (crashWE ws ps zs).length cW5, .slice aP5 0 cP5] 26))
  have Va_5b := hideIt (at_old (o := .cells #[.slice aW5 (crashWE ws ps zs).length cW5, .slice aP5 0 cP5] 26) Va_5.out)
  have Vs_5b := hideIt (at_old (o := .cells #[.slice aW5 (crashWE ws ps zs).length cW5, .slice aP5 0 cP5] 26) Vs_5.out)
  have Vx_5b := hideIt (at_old (o := .cells #[.slice aW5 (crashWE ws ps zs).length cW5, .slice aP5 0 cP5] 26) Vx_5.out)
  have R2_5b := hideIt (R2_5.out.alloc (by omega) (.cells #[.slice aW5 (crashWE ws ps zs).length cW5, .slice aP5 0 cP5] 26))
  have R2z_5b := hideIt (R2z_5.out.alloc (by omega) (.cells #[.slice aW5 (crashWE ws ps zs).length cW5, .slice aP5 0 cP5] 26))
  have R3_5b := hideIt (R3_5.out.alloc (by omega) (.cells #[.slice aW5 (crashWE ws ps zs).length cW5, .slice aP5 0 cP5] 26))
  have R4_5b := hideIt (R4_5.out.alloc (by omega) (.cells #[.slice aW5 (crashWE ws ps zs).length cW5, .slice aP5 0 cP5] 26))
  have R4z_5b := hideIt (R4z_5.out.alloc (by omega) (.cells #[.slice aW5 (crashWE ws ps zs).length cW5, .slice aP5 0 cP5] 26))
  have R5_5b := hideIt (R5_5.out.alloc (by omega) (.cells #[.slice aW5 (crashWE ws ps zs).length cW5, .slice aP5 0 cP5] 26))
  have Vg_5b : Hid ((w5.alloc (.cells #[.slice aW5 (crashWE ws ps zs).length cW5, .slice aP5 0 cP5] 26)).heap[w5.heap.size]? = some (.cells #[.slice aW5 (crashWE ws ps zs).length cW5, .slice aP5 0 cP5] 26 (0, 0))) := at_new rfl
  obtain ⟨lg0, lg1, lg2, lg3⟩ := two_cells Vg_5b.out
  obtain ⟨ls0, ls1, ls2, ls3⟩ := two_cells Vs_5b.out
  go_wp2_with fail
  refine (eqBlk_same _ _ (crashWE ws ps zs) [] _ R5_5b.out.rd R3_5b.out.rd hd0 (by simp)).mono ?_
  rintro e w6 ⟨rfl, hb6⟩
  have hz6 : w5.heap.size + 1 ≤ w6.heap.size := by have := hb6.size; first | omega | (simp only [World.size_alloc] at this; omega)
  have B_6 := hideIt (below_trans B_5b.out hb6 (by first | omega | (simp only [World.size_alloc]; omega)))
  have Va_6 := hideIt ((hb6.block _ (by first | omega | (simp only [World.size_alloc]; omega))).trans Va_5b.out)
  have Vs_6 := hideIt ((hb6.block _ (by first | omega | (simp only [World.size_alloc]; omega))).trans Vs_5b.out)
  have Vx_6 := hideIt ((hb6.block _ (by first | omega | (simp only [World.size_alloc]; omega))).trans Vx_5b.out)
  have Vg_6 := hideIt ((hb6.block _ (by first | omega | (simp only [World.size_alloc]; omega))).trans Vg_5b.out)
  have R2_6 := hideIt (R2_5b.out.below hb6 (by first | omega | (simp only [World.size_alloc]; omega)))
  have R2z_6 := hideIt (R2z_5b.out.below hb6 (by first | omega | (simp only [World.size_alloc]; omega)))
  have R3_6 := hideIt (R3_5b.out.below hb6 (by first | omega | (simp only [World.size_alloc]; omega)))
  have R4_6 := hideIt (R4_5b.out.below hb6 (by first | omega | (simp only [World.size_alloc]; omega)))
  have R4z_6 := hideIt (R4z_5b.out.below hb6 (by first | omega | (simp only [World.size_alloc]; omega)))
  have R5_6 := hideIt (R5_5b.out.below hb6 (by first | omega | (simp only [World.size_alloc]; omega)))
  clear lg0 lg1 lg2 lg3 ls0 ls1 ls2 ls3 hb6
  obtain ⟨la0, la1, la2, la3⟩ := two_cells Va_6.out
  obtain ⟨lx0, lx1, lx2, lx3⟩ := two_cells Vx_6.out
  go_upto_region 13 with fail
  go_cut [56] (fun s wx => s = .bool false ∧ Below w6.heap.size w6 wx)
  case first =>
    go_region_with (first
      | (go_at_call 20; refine (toBlk_any _ ws ps _ (by first | exact HR.out.below B_6.out.drew | exact HR.out.below B_6.out) hws hps).mono ?_; rintro e wa ⟨va, rfl, hra, hba⟩; obtain ⟨vWa, vPa, rfl, hIa, hSa⟩ := hra.rd; obtain ⟨aWa, cWa, rfl⟩ := hIa.form rfl; obtain ⟨aPa, cPa, rfl⟩ := hSa.form rfl; obtain ⟨y1, y2, _, _⟩ := two_cells ((hba.block w4.heap.size (show w4.heap.size < w6.heap.size by omega)).trans Vx_6.out))
      | (go_at_call 22; refine (eqBlk_same _ _ ws ps _ (by first | exact (R4_6.out.rd.below ((Below.refl _ _).drew)).below ‹_› | exact R4_6.out.rd.below ‹_›) (by exact RowBlk.rd ‹_›) (by omega) (by omega)).mono ?_; rintro e wb ⟨rfl, hbb⟩))
    all_goals
      go_wp2_with fail
      go_meet
      have hza := hba.size
      exact ⟨rfl, (below_trans ((Below.refl _ _).drew) hba (Nat.le_refl _)).trans (hbb.mono hza)⟩
  case rest =>
  obtain ⟨rfl, hb7⟩ := hcut
  clear la0 la1 la2 la3 lx0 lx1 lx2 lx3
  have hz7 : w6.heap.size ≤ wc.heap.size := by have := hb7.size; first | omega | (simp only [World.size_alloc] at this; omega)
  have B_7 := hideIt (below_trans B_6.out hb7 (by first | omega | (simp only [World.size_alloc]; omega)))
  have Va_7 := hideIt ((hb7.block _ (by first | omega | (simp only [World.size_alloc]; omega))).trans Va_6.out)
  have Vs_7 := hideIt ((hb7.block _ (by first | omega | (simp only [World.size_alloc]; omega))).trans Vs_6.out)
  have Vx_7 := hideIt ((hb7.block _ (by first | omega | (simp only [World.size_alloc]; omega))).trans Vx_6.out)
  have Vg_7 := hideIt ((hb7.block _ (by first | omega | (simp only [World.size_alloc]; omega))).trans Vg_6.out)
  have R2_7 := hideIt (R2_6.out.below hb7 (by first | omega | (simp only [World.size_alloc]; omega)))
  have R2z_7 := hideIt (R2z_6.out.below hb7 (by first | omega | (simp only [World.size_alloc]; omega)))
  have R3_7 := hideIt (R3_6.out.below hb7 (by first | omega | (simp only [World.size_alloc]; omega)))
  have R4_7 := hideIt (R4_6.out.below hb7 (by first | omega | (simp only [World.size_alloc]; omega)))
  have R4z_7 := hideIt (R4z_6.out.below hb7 (by first | omega | (simp only [World.size_alloc]; omega)))
  have R5_7 := hideIt (R5_6.out.below hb7 (by first | omega | (simp only [World.size_alloc]; omega)))
  clear hb7
  go_wp2_with fail
  refine (toIntS_any _ zs _ (Rd.below HZ.out B_7.out) hzs).mono ?_
  rintro e w7z ⟨v7z, rfl, hr7z, hb7z⟩
  obtain ⟨aZ7z, cZ7z, rfl⟩ := RdI.form hr7z.rd rfl
  have hz7z : wc.heap.size ≤ w7z.heap.size := by have := hb7z.size; first | omega | (simp only [World.size_alloc] at this; omega)
  have B_7z := hideIt (below_trans B_7.out hb7z (by first | omega | (simp only [World.size_alloc]; omega)))
  have Va_7z := hideIt ((hb7z.block _ (by first | omega | (simp only [World.size_alloc]; omega))).trans Va_7.out)
  have Vs_7z := hideIt ((hb7z.block _ (by first | omega | (simp only [World.size_alloc]; omega))).trans Vs_7.out)
  have Vx_7z := hideIt ((hb7z.block _ (by first | omega | (simp only [World.size_alloc]; omega))).trans Vx_7.out)
  have Vg_7z := hideIt ((hb7z.block _ (by first | omega | (simp only [World.size_alloc]; omega))).trans Vg_7.out)
  have R2_7z := hideIt (R2_7.out.below hb7z (by first | omega | (simp only [World.size_alloc]; omega)))
  have R2z_7z := hideIt (R2z_7.out.below hb7z (by first | omega | (simp only [World.size_alloc]; omega)))
  have R3_7z := hideIt (R3_7.out.below hb7z (by first | omega | (simp only [World.size_alloc]; omega)))
  have R4_7z := hideIt (R4_7.out.below hb7z (by first | omega | (simp only [World.size_alloc]; omega)))
  have R4z_7z := hideIt (R4z_7.out.below hb7z (by first | omega | (simp only [World.size_alloc]; omega)))
  have R5_7z := hideIt (R5_7.out.below hb7z (by first | omega | (simp only [World.size_alloc]; omega)))
  have R7z_7z := hideIt (hr7z.wide (lo' := wc.heap.size) (hi' := w7z.heap.size) (by first | omega | (simp only [World.size_alloc]; omega)) (Nat.le_refl _))
  clear hr7z hb7z
  go_wp2_with fail
  refine (eqIntS_same _ _ zs _ R4z_7z.out.rd R7z_7z.out.rd (by omega)).mono ?_
  rintro e w8 ⟨rfl, hb8⟩
  have hz8 : w7z.heap.size ≤ w8.heap.size := by have := hb8.size; first | omega | (simp only [World.size_alloc] at this; omega)
  have B_8 := hideIt (below_trans B_7z.out hb8 (by first | omega | (simp only [World.size_alloc]; omega)))
  have Va_8 := hideIt ((hb8.block _ (by first | omega | (simp only [World.size_alloc]; omega))).trans Va_7z.out)
  have Vs_8 := hideIt ((hb8.block _ (by first | omega | (simp only [World.size_alloc]; omega))).trans Vs_7z.out)
  have Vx_8 := hideIt ((hb8.block _ (by first | omega | (simp only [World.size_alloc]; omega))).trans Vx_7z.out)
  have Vg_8 := hideIt ((hb8.block _ (by first | omega | (simp only [World.size_alloc]; omega))).trans Vg_7z.out)
  have R2_8 := hideIt (R2_7z.out.below hb8 (by first | omega | (simp only [World.size_alloc]; omega)))
  have R2z_8 := hideIt (R2z_7z.out.below hb8 (by first | omega | (simp only [World.size_alloc]; omega)))
  have R3_8 := hideIt (R3_7z.out.below hb8 (by first | omega | (simp only [World.size_alloc]; omega)))
  have R4_8 := hideIt (R4_7z.out.below hb8 (by first | omega | (simp only [World.size_alloc]; omega)))
  have R4z_8 := hideIt (R4z_7z.out.below hb8 (by first | omega | (simp only [World.size_alloc]; omega)))
  have R5_8 := hideIt (R5_7z.out.below hb8 (by first | omega | (simp only [World.size_alloc]; omega)))
  have R7z_8 := hideIt (R7z_7z.out.below hb8 (by first | omega | (simp only [World.size_alloc]; omega)))
  clear hb8
  obtain ⟨lx0, lx1, lx2, lx3⟩ := two_cells Vx_8.out
  go_wp2_with fail
  refine (markBlk_any _ (ws) (ps) 1 _ _ _ R4_8.out (by omega) (by omega) (by omega) (by omega) (by omega)).mono ?_
  rintro e w9 ⟨rfl, hr9, ho9⟩
  have hz9 : w8.heap.size ≤ w9.heap.size := ho9.size
  have B_9 := hideIt (B_8.out.trans (ho9.below (B := w.heap.size) (by omega) (by omega)))
  have Va_9 := hideIt ((ho9.block _ (by omega) (by omega)).trans Va_8.out)
  have Vs_9 := hideIt ((ho9.block _ (by omega) (by omega)).trans Vs_8.out)
  have Vx_9 := hideIt ((ho9.block _ (by omega) (by omega)).trans Vx_8.out)
  have Vg_9 := hideIt ((ho9.block _ (by omega) (by omega)).trans Vg_8.out)
  have R2_9 := hideIt (R2_8.out.outside ho9 (by omega) (by omega))
  have R2z_9 := hideIt (R2z_8.out.outside ho9 (by omega) (by omega))
  have R3_9 := hideIt (R3_8.out.outside ho9 (by omega) (by omega))
  have R4z_9 := hideIt (R4z_8.out.outside ho9 (by omega) (by omega))
  have R5_9 := hideIt (R5_8.out.outside ho9 (by omega) (by omega))
  have R7z_9 := hideIt (R7z_8.out.outside ho9 (by omega) (by omega))
  clear lx0 lx1 lx2 lx3 hr9 ho9
  go_wp2_with fail
  refine (markIntS_any _ _ _ (1 + ws.length + 2 * ps.length) _ _ _ R4z_9.out (fun u hu => by simp only [ints, List.mem_map] at hu; obtain ⟨z, _, rfl⟩ := hu; exact ⟨z, rfl⟩) (by omega) (by omega) (by omega)).mono ?_
  rintro e w9z ⟨rfl, hr9z, hg9z, hzz9z⟩
  have ho9z := Row.grown_outside R4z_9.out hg9z
  have hz9z : w9.heap.size ≤ w9z.heap.size := ho9z.size
  have B_9z := hideIt (B_9.out.trans (ho9z.below (B := w.heap.size) (by omega) (by omega)))
  have Va_9z := hideIt ((ho9z.block _ (by omega) (by omega)).trans Va_9.out)
  have Vs_9z := hideIt ((ho9z.block _ (by omega) (by omega)).trans Vs_9.out)
  have Vx_9z := hideIt ((ho9z.block _ (by omega) (by omega)).trans Vx_9.out)
  have Vg_9z := hideIt ((ho9z.block _ (by omega) (by omega)).trans Vg_9.out)
  have R2_9z := hideIt (R2_9.out.outside ho9z (by omega) (by omega))
  have R2z_9z := hideIt (R2z_9.out.outside ho9z (by omega) (by omega))
  have R3_9z := hideIt (R3_9.out.outside ho9z (by omega) (by omega))
  have R5_9z := hideIt (R5_9.out.outside ho9z (by omega) (by omega))
  have R7z_9z := hideIt (R7z_9.out.outside ho9z (by omega) (by omega))
  clear hr9z ho9z hg9z hzz9z
  obtain ⟨lg0, lg1, lg2, lg3⟩ := two_cells Vg_9z.out
  obtain ⟨ls0, ls1, ls2, ls3⟩ := two_cells Vs_9z.out
  go_wp2_with fail
  refine (eqBlk_same _ _ (crashWE ws ps zs) [] _ R5_9z.out.rd R3_9z.out.rd hd0 (by simp)).mono ?_
  rintro e w10 ⟨rfl, hb10⟩
  have hz10 : w9z.heap.size ≤ w10.heap.size := by have := hb10.size; first | omega | (simp only [World.size_alloc] at this; omega)
  have B_10 := hideIt (below_trans B_9z.out hb10 (by first | omega | (simp only [World.size_alloc]; omega)))
  have Va_10 := hideIt ((hb10.block _ (by first | omega | (simp only [World.size_alloc]; omega))).trans Va_9z.out)
  have Vs_10 := hideIt ((hb10.block _ (by first | omega | (simp only [World.size_alloc]; omega))).trans Vs_9z.out)
  have Vx_10 := hideIt ((hb10.block _ (by first | omega | (simp only [World.size_alloc]; omega))).trans Vx_9z.out)
  have Vg_10 := hideIt ((hb10.block _ (by first | omega | (simp only [World.size_alloc]; omega))).trans Vg_9z.out)
  have R2_10 := hideIt (R2_9z.out.below hb10 (by first | omega | (simp only [World.size_alloc]; omega)))
  have R2z_10 := hideIt (R2z_9z.out.below hb10 (by first | omega | (simp only [World.size_alloc]; omega)))
  have R3_10 := hideIt (R3_9z.out.below hb10 (by first | omega | (simp only [World.size_alloc]; omega)))
  have R5_10 := hideIt (R5_9z.out.below hb10 (by first | omega | (simp only [World.size_alloc]; omega)))
  have R7z_10 := hideIt (R7z_9z.out.below hb10 (by first | omega | (simp only [World.size_alloc]; omega)))
  clear lg0 lg1 lg2 lg3 ls0 ls1 ls2 ls3 hb10
  obtain ⟨lg0, lg1, lg2, lg3⟩ := two_cells Vg_10.out
  go_wp2_with fail
  refine (markBlk_any _ (crashWE ws ps zs) ([]) 1 _ _ _ R5_10.out (by omega) hd0 (by simp) (by omega) (by omega)).mono ?_
  rintro e w11 ⟨rfl, hr11, ho11⟩
  have hz11 : w10.heap.size ≤ w11.heap.size := ho11.size
  have B_11 := hideIt (B_10.out.trans (ho11.below (B := w.heap.size) (by omega) (by omega)))
  have Va_11 := hideIt ((ho11.block _ (by omega) (by omega)).trans Va_10.out)
  have Vs_11 := hideIt ((ho11.block _ (by omega) (by omega)).trans Vs_10.out)
  have Vx_11 := hideIt ((ho11.block _ (by omega) (by omega)).trans Vx_10.out)
  have Vg_11 := hideIt ((ho11.block _ (by omega) (by omega)).trans Vg_10.out)
  have R2_11 := hideIt (R2_10.out.outside ho11 (by omega) (by omega))
  have R2z_11 := hideIt (R2z_10.out.outside ho11 (by omega) (by omega))
  have R3_11 := hideIt (R3_10.out.outside ho11 (by omega) (by omega))
  have R7z_11 := hideIt (R7z_10.out.outside ho11 (by omega) (by omega))
  have M5_11 := hideIt hr11
  clear lg0 lg1 lg2 lg3 hr11 ho11
  obtain ⟨lg0, lg1, lg2, lg3⟩ := two_cells Vg_11.out
  go_wp2_with fail
  refine (heldBlk_any _ (crashWE ws ps zs).length ([] : List Se).length 1 _ M5_11.out.rd hd0 (by simp) (by decide) (by decide)).mono ?_
  rintro e w12 ⟨rfl, hb12⟩
  have hz12 : w11.heap.size ≤ w12.heap.size := by have := hb12.size; first | omega | (simp only [World.size_alloc] at this; omega)
  have B_12 := hideIt (below_trans B_11.out hb12 (by first | omega | (simp only [World.size_alloc]; omega)))
  have Va_12 := hideIt ((hb12.block _ (by first | omega | (simp only [World.size_alloc]; omega))).trans Va_11.out)
  have Vs_12 := hideIt ((hb12.block _ (by first | omega | (simp only [World.size_alloc]; omega))).trans Vs_11.out)
  have Vx_12 := hideIt ((hb12.block _ (by first | omega | (simp only [World.size_alloc]; omega))).trans Vx_11.out)
  have Vg_12 := hideIt ((hb12.block _ (by first | omega | (simp only [World.size_alloc]; omega))).trans Vg_11.out)
  have R2_12 := hideIt (R2_11.out.below hb12 (by first | omega | (simp only [World.size_alloc]; omega)))
  have R2z_12 := hideIt (R2z_11.out.below hb12 (by first | omega | (simp only [World.size_alloc]; omega)))
  have R3_12 := hideIt (R3_11.out.below hb12 (by first | omega | (simp only [World.size_alloc]; omega)))
  have R7z_12 := hideIt (R7z_11.out.below hb12 (by first | omega | (simp only [World.size_alloc]; omega)))
  have M5_12 := hideIt (M5_11.out.below hb12 (by first | omega | (simp only [World.size_alloc]; omega)))
  clear lg0 lg1 lg2 lg3 hb12
  obtain ⟨la0, la1, la2, la3⟩ := two_cells Va_12.out
  go_wp2_with fail
  refine (toBlk_any _ ws ps _ (HR.out.below B_12.out) hws hps).mono ?_
  rintro e w13 ⟨v13, rfl, hr13, hb13⟩
  obtain ⟨vW13, vP13, rfl, hI13, hS13⟩ := hr13.rd
  obtain ⟨aW13, cW13, rfl⟩ := hI13.form rfl
  obtain ⟨aP13, cP13, rfl⟩ := hS13.form rfl
  have hz13 : w12.heap.size ≤ w13.heap.size := by have := hb13.size; first | omega | (simp only [World.size_alloc] at this; omega)
  have B_13 := hideIt (below_trans B_12.out hb13 (by first | omega | (simp only [World.size_alloc]; omega)))
  have Va_13 := hideIt ((hb13.block _ (by first | omega | (simp only [World.size_alloc]; omega))).trans Va_12.out)
  have Vs_13 := hideIt ((hb13.block _ (by first | omega | (simp only [World.size_alloc]; omega))).trans Vs_12.out)
  have Vx_13 := hideIt ((hb13.block _ (by first | omega | (simp only [World.size_alloc]; omega))).trans Vx_12.out)
  have Vg_13 := hideIt ((hb13.block _ (by first | omega | (simp only [World.size_alloc]; omega))).trans Vg_12.out)
  have R2_13 := hideIt (R2_12.out.below hb13 (by first | omega | (simp only [World.size_alloc]; omega)))
  have R2z_13 := hideIt (R2z_12.out.below hb13 (by first | omega | (simp only [World.size_alloc]; omega)))
  have R3_13 := hideIt (R3_12.out.below hb13 (by first | omega | (simp only [World.size_alloc]; omega)))
  have R7z_13 := hideIt (R7z_12.out.below hb13 (by first | omega | (simp only [World.size_alloc]; omega)))
  have M5_13 := hideIt (M5_12.out.below hb13 (by first | omega | (simp only [World.size_alloc]; omega)))
  have R13_13 := hideIt (hr13.wide (lo' := w12.heap.size) (hi' := w13.heap.size) (by first | omega | (simp only [World.size_alloc]; omega)) (Nat.le_refl _))
  clear la0 la1 la2 la3 hI13 hS13 hr13 hb13
  go_wp2_with fail
  refine (toIntS_any _ zs _ (Rd.below HZ.out B_13.out) hzs).mono ?_
  rintro e w13z ⟨v13z, rfl, hr13z, hb13z⟩
  obtain ⟨aZ13z, cZ13z, rfl⟩ := RdI.form hr13z.rd rfl
  have hz13z : w13.heap.size ≤ w13z.heap.size := by have := hb13z.size; first | omega | (simp only [World.size_alloc] at this; omega)
  have B_13z := hideIt (below_trans B_13.out hb13z (by first | omega | (simp only [World.size_alloc]; omega)))
  have Va_13z := hideIt ((hb13z.block _ (by first | omega | (simp only [World.size_alloc]; omega))).trans Va_13.out)
  have Vs_13z := hideIt ((hb13z.block _ (by first | omega | (simp only [World.size_alloc]; omega))).trans Vs_13.out)
  have Vx_13z := hideIt ((hb13z.block _ (by first | omega | (simp only [World.size_alloc]; omega))).trans Vx_13.out)
  have Vg_13z := hideIt ((hb13z.block _ (by first | omega | (simp only [World.size_alloc]; omega))).trans Vg_13.out)
  have R2_13z := hideIt (R2_13.out.below hb13z (by first | omega | (simp only [World.size_alloc]; omega)))
  have R2z_13z := hideIt (R2z_13.out.below hb13z (by first | omega | (simp only [World.size_alloc]; omega)))
  have R3_13z := hideIt (R3_13.out.below hb13z (by first | omega | (simp only [World.size_alloc]; omega)))
  have R7z_13z := hideIt (R7z_13.out.below hb13z (by first | omega | (simp only [World.size_alloc]; omega)))
  have R13_13z := hideIt (R13_13.out.below hb13z (by first | omega | (simp only [World.size_alloc]; omega)))
  have M5_13z := hideIt (M5_13.out.below hb13z (by first | omega | (simp only [World.size_alloc]; omega)))
  have R13z_13z := hideIt (hr13z.wide (lo' := w13.heap.size) (hi' := w13z.heap.size) (by first | omega | (simp only [World.size_alloc]; omega)) (Nat.le_refl _))
  clear hr13z hb13z
  go_wp2_with fail
  refine (implBlkCrash_any _ _ ws ps zs _ R13_13z.out.rd R13z_13z.out.rd (HG.out.below B_13z.out) hws hps hzs).mono ?_
  rintro e w14 ⟨v14, rfl, hr14, hb14⟩
  obtain ⟨vW14, vP14, rfl, hI14, hS14⟩ := hr14.rd
  obtain ⟨aW14, cW14, rfl⟩ := hI14.form rfl
  obtain ⟨aP14, cP14, rfl⟩ := hS14.form (n := 0) rfl
  have hz14 : w13z.heap.size ≤ w14.heap.size := by have := hb14.size; first | omega | (simp only [World.size_alloc] at this; omega)
  have B_14 := hideIt (below_trans B_13z.out hb14 (by first | omega | (simp only [World.size_alloc]; omega)))
  have Va_14 := hideIt ((hb14.block _ (by first | omega | (simp only [World.size_alloc]; omega))).trans Va_13z.out)
  have Vs_14 := hideIt ((hb14.block _ (by first | omega | (simp only [World.size_alloc]; omega))).trans Vs_13z.out)
  have Vx_14 := hideIt ((hb14.block _ (by first | omega | (simp only [World.size_alloc]; omega))).trans Vx_13z.out)
  have Vg_14 := hideIt ((hb14.block _ (by first | omega | (simp only [World.size_alloc]; omega))).trans Vg_13z.out)
  have R2_14 := hideIt (R2_13z.out.below hb14 (by first | omega | (simp only [World.size_alloc]; omega)))
  have R2z_14 := hideIt (R2z_13z.out.below hb14 (by first | omega | (simp only [World.size_alloc]; omega)))
  have R3_14 := hideIt (R3_13z.out.below hb14 (by first | omega | (simp only [World.size_alloc]; omega)))
  have R7z_14 := hideIt (R7z_13z.out.below hb14 (by first | omega | (simp only [World.size_alloc]; omega)))
  have R13_14 := hideIt (R13_13z.out.below hb14 (by first | omega | (simp only [World.size_alloc]; omega)))
  have R13z_14 := hideIt (R13z_13z.out.below hb14 (by first | omega | (simp only [World.size_alloc]; omega)))
  have M5_14 := hideIt (M5_13z.out.below hb14 (by first | omega | (simp only [World.size_alloc]; omega)))
  have R14_14 := hideIt (hr14.wide (lo' := w13z.heap.size) (hi' := w14.heap.size) (by first | omega | (simp only [World.size_alloc]; omega)) (Nat.le_refl _))
  clear hI14 hS14 hr14 hb14
  have B_14b := hideIt (B_14.out.alloc (by omega) (.cells #[.slice aW14 (crashWE ws ps zs).length cW14, .slice aP14 0 cP14] 26))
  have Va_14b := hideIt (at_old (o := .cells #[.slice aW14 (crashWE ws ps zs).length cW14, .slice aP14 0 cP14] 26) Va_14.out)
  have Vs_14b := hideIt (at_old (o := .cells #[.slice aW14 (crashWE ws ps zs).length cW14, .slice aP14 0 cP14] 26) Vs_14.out)
  have Vx_14b := hideIt (at_old (o := .cells #[.slice aW14 (crashWE ws ps zs).length cW14, .slice aP14 0 cP14] 26) Vx_14.out)
  have Vg_14b := hideIt (at_old (o := .cells #[.slice aW14 (crashWE ws ps zs).length cW14, .slice aP14 0 cP14] 26) Vg_14.out)
  have R2_14b := hideIt (R2_14.out.alloc (by omega) (.cells #[.slice aW14 (crashWE ws ps zs).length cW14, .slice aP14 0 cP14] 26))
  have R2z_14b := hideIt (R2z_14.out.alloc (by omega) (.cells #[.slice aW14 (crashWE ws ps zs).length cW14, .slice aP14 0 cP14] 26))
  have R3_14b := hideIt (R3_14.out.alloc (by omega) (.cells #[.slice aW14 (crashWE ws ps zs).length cW14, .slice aP14 0 cP14] 26))
  have R7z_14b := hideIt (R7z_14.out.alloc (by omega) (.cells #[.slice aW14 (crashWE ws ps zs).length cW14, .slice aP14 0 cP14] 26))
  have R13_14b := hideIt (R13_14.out.alloc (by omega) (.cells #[.slice aW14 (crashWE ws ps zs).length cW14, .slice aP14 0 cP14] 26))
  have R13z_14b := hideIt (R13z_14.out.alloc (by omega) (.cells #[.slice aW14 (crashWE ws ps zs).length cW14, .slice aP14 0 cP14] 26))
  have R14_14b := hideIt (R14_14.out.alloc (by omega) (.cells #[.slice aW14 (crashWE ws ps zs).length cW14, .slice aP14 0 cP14] 26))
  have M5_14b := hideIt (M5_14.out.alloc (by omega) (.cells #[.slice aW14 (crashWE ws ps zs).length cW14, .slice aP14 0 cP14] 26))
  have Vh_14b : Hid ((w14.alloc (.cells #[.slice aW14 (crashWE ws ps zs).length cW14, .slice aP14 0 cP14] 26)).heap[w14.heap.size]? = some (.cells #[.slice aW14 (crashWE ws ps zs).length cW14, .slice aP14 0 cP14] 26 (0, 0))) := at_new rfl
  obtain ⟨lh0, lh1, lh2, lh3⟩ := two_cells Vh_14b.out
  obtain ⟨ls0, ls1, ls2, ls3⟩ := two_cells Vs_14b.out
  go_wp2_with fail
  refine (eqBlk_same _ _ (crashWE ws ps zs) [] _ R14_14b.out.rd R3_14b.out.rd hd0 (by simp)).mono ?_
  rintro e w15 ⟨rfl, hb15⟩
  have hz15 : w14.heap.size + 1 ≤ w15.heap.size := by have := hb15.size; first | omega | (simp only [World.size_alloc] at this; omega)
  have B_15 := hideIt (below_trans B_14b.out hb15 (by first | omega | (simp only [World.size_alloc]; omega)))
  have Va_15 := hideIt ((hb15.block _ (by first | omega | (simp only [World.size_alloc]; omega))).trans Va_14b.out)
  have Vs_15 := hideIt ((hb15.block _ (by first | omega | (simp only [World.size_alloc]; omega))).trans Vs_14b.out)
  have Vx_15 := hideIt ((hb15.block _ (by first | omega | (simp only [World.size_alloc]; omega))).trans Vx_14b.out)
  have Vg_15 := hideIt ((hb15.block _ (by first | omega | (simp only [World.size_alloc]; omega))).trans Vg_14b.out)
  have Vh_15 := hideIt ((hb15.block _ (by first | omega | (simp only [World.size_alloc]; omega))).trans Vh_14b.out)
  have R2_15 := hideIt (R2_14b.out.below hb15 (by first | omega | (simp only [World.size_alloc]; omega)))
  have R2z_15 := hideIt (R2z_14b.out.below hb15 (by first | omega | (simp only [World.size_alloc]; omega)))
  have R3_15 := hideIt (R3_14b.out.below hb15 (by first | omega | (simp only [World.size_alloc]; omega)))
  have R7z_15 := hideIt (R7z_14b.out.below hb15 (by first | omega | (simp only [World.size_alloc]; omega)))
  have R13_15 := hideIt (R13_14b.out.below hb15 (by first | omega | (simp only [World.size_alloc]; omega)))
  have R13z_15 := hideIt (R13z_14b.out.below hb15 (by first | omega | (simp only [World.size_alloc]; omega)))
  have R14_15 := hideIt (R14_14b.out.below hb15 (by first | omega | (simp only [World.size_alloc]; omega)))
  have M5_15 := hideIt (M5_14b.out.below hb15 (by first | omega | (simp only [World.size_alloc]; omega)))
  clear lh0 lh1 lh2 lh3 ls0 ls1 ls2 ls3 hb15
  obtain ⟨lg0, lg1, lg2, lg3⟩ := two_cells Vg_15.out
  go_wp2_with fail
  refine (heldBlk_any _ (crashWE ws ps zs).length ([] : List Se).length 1 _ M5_15.out.rd hd0 (by simp) (by decide) (by decide)).mono ?_
  rintro e w16 ⟨rfl, hb16⟩
  have hz16 : w15.heap.size ≤ w16.heap.size := by have := hb16.size; first | omega | (simp only [World.size_alloc] at this; omega)
  have B_16 := hideIt (below_trans B_15.out hb16 (by first | omega | (simp only [World.size_alloc]; omega)))
  have Va_16 := hideIt ((hb16.block _ (by first | omega | (simp only [World.size_alloc]; omega))).trans Va_15.out)
  have Vs_16 := hideIt ((hb16.block _ (by first | omega | (simp only [World.size_alloc]; omega))).trans Vs_15.out)
  have Vx_16 := hideIt ((hb16.block _ (by first | omega | (simp only [World.size_alloc]; omega))).trans Vx_15.out)
  have Vg_16 := hideIt ((hb16.block _ (by first | omega | (simp only [World.size_alloc]; omega))).trans Vg_15.out)
  have Vh_16 := hideIt ((hb16.block _ (by first | omega | (simp only [World.size_alloc]; omega))).trans Vh_15.out)
  have R2_16 := hideIt (R2_15.out.below hb16 (by first | omega | (simp only [World.size_alloc]; omega)))
  have R2z_16 := hideIt (R2z_15.out.below hb16 (by first | omega | (simp only [World.size_alloc]; omega)))
  have R3_16 := hideIt (R3_15.out.below hb16 (by first | omega | (simp only [World.size_alloc]; omega)))
  have R7z_16 := hideIt (R7z_15.out.below hb16 (by first | omega | (simp only [World.size_alloc]; omega)))
  have R13_16 := hideIt (R13_15.out.below hb16 (by first | omega | (simp only [World.size_alloc]; omega)))
  have R13z_16 := hideIt (R13z_15.out.below hb16 (by first | omega | (simp only [World.size_alloc]; omega)))
  have R14_16 := hideIt (R14_15.out.below hb16 (by first | omega | (simp only [World.size_alloc]; omega)))
  have M5_16 := hideIt (M5_15.out.below hb16 (by first | omega | (simp only [World.size_alloc]; omega)))
  clear lg0 lg1 lg2 lg3 hb16
  go_wp2
  go_ret
  exact ⟨rfl, B_16.out⟩
end Go.Proofs.YtbjcoeimcdodjaaDoor
