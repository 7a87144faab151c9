/- The law of BlkUnsure: the walk. -/
import Derived.Test.YtenadnlgjobmdajDoorBlkUnsI
import Derived.Deep.DeepCutAuto
import Derived.Deep.RegionWith
namespace Go.Proofs.YtenadnlgjobmdajDoor
open Go.RowKit

set_option maxRecDepth 100000 in
set_option maxHeartbeats 8000000 in
theorem blkUnsure_law (vW vP : Value) (ws : List Int) (ps : List Se) (w : World) (h1 : RdI w vW ws) (h2 : RdE w vP ps) (hG : NW w) (hw : ws.length ≤ maxLen) (hp : ps.length ≤ maxLen) :
    Calls Tryd.prog 4 #[.agg #[vW, vP]] w fun e w' => e = .returned (.bool true) ∧ Below w.heap.size w w' := by
  obtain ⟨aW, cW, rfl, _⟩ := h1.shape
  obtain ⟨aP, cP, rfl, _⟩ := h2.shape
  have HR : Hid (RdBlk w (.agg #[.slice aW ws.length cW, .slice aP ps.length cP]) ws ps) := ⟨_, _, rfl, h1, h2⟩
  have HG := hideIt hG
  clear h1 h2 hG
  have hb0 : Below w.heap.size w (w.alloc (.cells #[.slice aW ws.length cW, .slice aP ps.length cP] 25)) := (Below.refl _ _).alloc (Nat.le_refl _) _
  by_cases c : 1048576 < ws.length + ps.length
  · go_enter Tryd.func4, Tryd.ntmps4
    go_wp2_with fail
    refine (szBlk_any aW aP ws.length ps.length cW cP _ hw hp).mono ?_
    rw [if_pos c]
    rintro e w1 ⟨rfl, hb1⟩
    have B1 := hideIt (below_trans hb0 hb1 (by simp))
    clear hb0 hb1
    go_wp2
    go_ret
    exact ⟨rfl, B1.out⟩
  have E := hideIt (show (if 1048576 < ws.length + ps.length then -1 else 1048576 - ws.length - ps.length : Int) = 1048576 - ws.length - ps.length from if_neg c)
  have hws : ws.length ≤ 1048576 := by omega
  have hps : ps.length ≤ 1048576 := by omega
  have hd0 : (unsZE ws ps).length ≤ 2147483648 := Nat.le_trans (unsZE_len ws ps) (by omega)
  go_enter Tryd.func4, Tryd.ntmps4
  go_wp2_with fail
  refine (szBlk_any aW aP ws.length ps.length cW cP _ hw hp).mono ?_
  rw [E.out]
  rintro e w1 ⟨rfl, hb1⟩
  have hz1 : w.heap.size + 1 ≤ w1.heap.size := by have := hb1.size; simp at this; omega
  have Va_1 := hideIt ((hb1.block w.heap.size (by simp)).trans (at_new rfl))
  have B_1 := hideIt (below_trans hb0 hb1 (by simp))
  clear hb0 hb1
  obtain ⟨la0, la1, la2, la3⟩ := two_cells Va_1.out
  go_wp2_with fail
  refine (toBlk_any _ ws ps _ (HR.out.below B_1.out) hws hps).mono ?_
  rintro e w2 ⟨v2, rfl, hr2, hb2⟩
  obtain ⟨vW2, vP2, rfl, hI2, hS2⟩ := hr2.rd
  obtain ⟨aW2, cW2, rfl⟩ := hI2.form rfl
  obtain ⟨aP2, cP2, rfl⟩ := hS2.form rfl
  have hz2 : w1.heap.size ≤ w2.heap.size := by have := hb2.size; first | omega | (simp only [World.size_alloc] at this; omega)
  have B_2 := hideIt (below_trans B_1.out hb2 (by first | omega | (simp only [World.size_alloc]; omega)))
  have Va_2 := hideIt ((hb2.block _ (by first | omega | (simp only [World.size_alloc]; omega))).trans Va_1.out)
  have R2_2 := hideIt (hr2.wide (lo' := w1.heap.size) (hi' := w2.heap.size) (by first | omega | (simp only [World.size_alloc]; omega)) (Nat.le_refl _))
  clear la0 la1 la2 la3 hI2 hS2 hr2 hb2
  go_wp2_with fail
  refine (specBlkUnsure_any _ ws ps _ R2_2.out.rd hws hps).mono ?_
  rintro e w3 ⟨v3, rfl, hr3, hb3⟩
  obtain ⟨aZ3, cZ3, rfl⟩ := RdI.form hr3.rd rfl
  have hz3 : w2.heap.size ≤ w3.heap.size := by have := hb3.size; first | omega | (simp only [World.size_alloc] at this; omega)
  have B_3 := hideIt (below_trans B_2.out hb3 (by first | omega | (simp only [World.size_alloc]; omega)))
  have Va_3 := hideIt ((hb3.block _ (by first | omega | (simp only [World.size_alloc]; omega))).trans Va_2.out)
  have R2_3 := hideIt (R2_2.out.below hb3 (by first | omega | (simp only [World.size_alloc]; omega)))
  have R3_3 := hideIt (hr3.wide (lo' := w2.heap.size) (hi' := w3.heap.size) (by first | omega | (simp only [World.size_alloc]; omega)) (Nat.le_refl _))
  clear hr3 hb3
  obtain ⟨la0, la1, la2, la3⟩ := two_cells Va_3.out
  go_wp2_with fail
  refine (toBlk_any _ ws ps _ (HR.out.below B_3.out) hws hps).mono ?_
  rintro e w4 ⟨v4, rfl, hr4, hb4⟩
  obtain ⟨vW4, vP4, rfl, hI4, hS4⟩ := hr4.rd
  obtain ⟨aW4, cW4, rfl⟩ := hI4.form rfl
  obtain ⟨aP4, cP4, rfl⟩ := hS4.form rfl
  have hz4 : w3.heap.size ≤ w4.heap.size := by have := hb4.size; first | omega | (simp only [World.size_alloc] at this; omega)
  have B_4 := hideIt (below_trans B_3.out hb4 (by first | omega | (simp only [World.size_alloc]; omega)))
  have Va_4 := hideIt ((hb4.block _ (by first | omega | (simp only [World.size_alloc]; omega))).trans Va_3.out)
  have R2_4 := hideIt (R2_3.out.below hb4 (by first | omega | (simp only [World.size_alloc]; omega)))
  have R3_4 := hideIt (R3_3.out.below hb4 (by first | omega | (simp only [World.size_alloc]; omega)))
  have R4_4 := hideIt (hr4.wide (lo' := w3.heap.size) (hi' := w4.heap.size) (by first | omega | (simp only [World.size_alloc]; omega)) (Nat.le_refl _))
  clear la0 la1 la2 la3 hI4 hS4 hr4 hb4
  have B_4b := hideIt (B_4.out.alloc (by omega) (.cells #[.slice aW4 ws.length cW4, .slice aP4 ps.length cP4] 29))
  have Va_4b := hideIt (at_old (o := .cells #[.slice aW4 ws.length cW4, .slice aP4 ps.length cP4] 29) Va_4.out)
  have R2_4b := hideIt (R2_4.out.alloc (by omega) (.cells #[.slice aW4 ws.length cW4, .slice aP4 ps.length cP4] 29))
  have R3_4b := hideIt (R3_4.out.alloc (by omega) (.cells #[.slice aW4 ws.length cW4, .slice aP4 ps.length cP4] 29))
  have R4_4b := hideIt (R4_4.out.alloc (by omega) (.cells #[.slice aW4 ws.length cW4, .slice aP4 ps.length cP4] 29))
  have Vx_4b : Hid ((w4.alloc (.cells #[.slice aW4 ws.length cW4, .slice aP4 ps.length cP4] 29)).heap[w4.heap.size]? = some (.cells #[.slice aW4 ws.length cW4, .slice aP4 ps.length cP4] 29 (0, 0))) := at_new rfl
  obtain ⟨lx0, lx1, lx2, lx3⟩ := two_cells Vx_4b.out
  go_wp2_with fail
  refine (implBlkUnsure_any _ ws ps _ R4_4b.out.rd (HG.out.below B_4b.out) hws hps).mono ?_
  rintro e w5 ⟨v5, rfl, hr5, hb5⟩
  obtain ⟨aZ5, cZ5, rfl⟩ := RdI.form hr5.rd rfl
  have hz5 : w4.heap.size + 1 ≤ w5.heap.size := by have := hb5.size; first | omega | (simp only [World.size_alloc] at this; omega)
  have B_5 := hideIt (below_trans B_4b.out hb5 (by first | omega | (simp only [World.size_alloc]; omega)))
  have Va_5 := hideIt ((hb5.block _ (by first | omega | (simp only [World.size_alloc]; omega))).trans Va_4b.out)
  have Vx_5 := hideIt ((hb5.block _ (by first | omega | (simp only [World.size_alloc]; omega))).trans Vx_4b.out)
  have R2_5 := hideIt (R2_4b.out.below hb5 (by first | omega | (simp only [World.size_alloc]; omega)))
  have R3_5 := hideIt (R3_4b.out.below hb5 (by first | omega | (simp only [World.size_alloc]; omega)))
  have R4_5 := hideIt (R4_4b.out.below hb5 (by first | omega | (simp only [World.size_alloc]; omega)))
  have R5_5 := hideIt (hr5.wide (lo' := w4.heap.size + 1) (hi' := w5.heap.size) (by first | omega | (simp only [World.size_alloc]; omega)) (Nat.le_refl _))
  clear hr5 hb5
  clear lx0 lx1 lx2 lx3
  go_wp2_with fail
  refine (eqIntS_same _ _ (unsZE ws ps) _ R5_5.out.rd R3_5.out.rd hd0).mono ?_
  rintro e w6 ⟨rfl, hb6⟩
  have hz6 : w5.heap.size ≤ w6.heap.size := by have := hb6.size; first | omega | (simp only [World.size_alloc] at this; omega)
  have B_6 := hideIt (below_trans B_5.out hb6 (by first | omega | (simp only [World.size_alloc]; omega)))
  have Va_6 := hideIt ((hb6.block _ (by first | omega | (simp only [World.size_alloc]; omega))).trans Va_5.out)
  have Vx_6 := hideIt ((hb6.block _ (by first | omega | (simp only [World.size_alloc]; omega))).trans Vx_5.out)
  have R2_6 := hideIt (R2_5.out.below hb6 (by first | omega | (simp only [World.size_alloc]; omega)))
  have R3_6 := hideIt (R3_5.out.below hb6 (by first | omega | (simp only [World.size_alloc]; omega)))
  have R4_6 := hideIt (R4_5.out.below hb6 (by first | omega | (simp only [World.size_alloc]; omega)))
  have R5_6 := hideIt (R5_5.out.below hb6 (by first | omega | (simp only [World.size_alloc]; omega)))
  clear hb6
  obtain ⟨la0, la1, la2, la3⟩ := two_cells Va_6.out
  obtain ⟨lx0, lx1, lx2, lx3⟩ := two_cells Vx_6.out
  go_upto_region 10 with fail
  go_cut [45] (fun s wx => s = .bool false ∧ Below w6.heap.size w6 wx)
  case first =>
    go_region_with (first
      | (go_at_call 9; refine (toBlk_any _ ws ps _ (by first | exact HR.out.below B_6.out.drew | exact HR.out.below B_6.out) hws hps).mono ?_; rintro e wa ⟨va, rfl, hra, hba⟩; obtain ⟨vWa, vPa, rfl, hIa, hSa⟩ := hra.rd; obtain ⟨aWa, cWa, rfl⟩ := hIa.form rfl; obtain ⟨aPa, cPa, rfl⟩ := hSa.form rfl; obtain ⟨y1, y2, _, _⟩ := two_cells ((hba.block w4.heap.size (show w4.heap.size < w6.heap.size by omega)).trans Vx_6.out))
      | (go_at_call 12; refine (eqBlk_same _ _ ws ps _ (by first | exact (R4_6.out.rd.below ((Below.refl _ _).drew)).below ‹_› | exact R4_6.out.rd.below ‹_›) (by exact RowBlk.rd ‹_›) (by omega) (by omega)).mono ?_; rintro e wb ⟨rfl, hbb⟩))
    all_goals
      go_wp2_with fail
      go_meet
      have hza := hba.size
      exact ⟨rfl, (below_trans ((Below.refl _ _).drew) hba (Nat.le_refl _)).trans (hbb.mono hza)⟩
  case rest =>
  obtain ⟨rfl, hb7⟩ := hcut
  clear la0 la1 la2 la3 lx0 lx1 lx2 lx3
  have hz7 := hb7.size
  have B_7 := hideIt (below_trans B_6.out hb7 (by omega))
  have Va_7 := hideIt ((hb7.block _ (by omega)).trans Va_6.out)
  have Vx_7 := hideIt ((hb7.block _ (by omega)).trans Vx_6.out)
  have R2_7 := hideIt (R2_6.out.below hb7 (by omega))
  have R3_7 := hideIt (R3_6.out.below hb7 (by omega))
  have R4_7 := hideIt (R4_6.out.below hb7 (by omega))
  have R5_7 := hideIt (R5_6.out.below hb7 (by omega))
  clear hb7
  obtain ⟨lx0, lx1, lx2, lx3⟩ := two_cells Vx_7.out
  go_wp2_with fail
  refine (markBlk_any _ (ws) (ps) 1 _ _ _ R4_7.out (by omega) (by omega) (by omega) (by decide) (by decide)).mono ?_
  rintro e w8 ⟨rfl, hr8, ho8⟩
  have hz8 : wc.heap.size ≤ w8.heap.size := ho8.size
  have B_8 := hideIt (B_7.out.trans (ho8.below (B := w.heap.size) (by omega) (by omega)))
  have Va_8 := hideIt ((ho8.block _ (by omega) (by omega)).trans Va_7.out)
  have Vx_8 := hideIt ((ho8.block _ (by omega) (by omega)).trans Vx_7.out)
  have R2_8 := hideIt (R2_7.out.outside ho8 (by omega) (by omega))
  have R3_8 := hideIt (R3_7.out.outside ho8 (by omega) (by omega))
  have R5_8 := hideIt (R5_7.out.outside ho8 (by omega) (by omega))
  have M4_8 := hideIt hr8
  clear lx0 lx1 lx2 lx3 hr8 ho8
  go_wp2_with fail
  refine (eqIntS_same _ _ (unsZE ws ps) _ R5_8.out.rd R3_8.out.rd hd0).mono ?_
  rintro e w9 ⟨rfl, hb9⟩
  have hz9 : w8.heap.size ≤ w9.heap.size := by have := hb9.size; first | omega | (simp only [World.size_alloc] at this; omega)
  have B_9 := hideIt (below_trans B_8.out hb9 (by first | omega | (simp only [World.size_alloc]; omega)))
  have Va_9 := hideIt ((hb9.block _ (by first | omega | (simp only [World.size_alloc]; omega))).trans Va_8.out)
  have Vx_9 := hideIt ((hb9.block _ (by first | omega | (simp only [World.size_alloc]; omega))).trans Vx_8.out)
  have R2_9 := hideIt (R2_8.out.below hb9 (by first | omega | (simp only [World.size_alloc]; omega)))
  have R3_9 := hideIt (R3_8.out.below hb9 (by first | omega | (simp only [World.size_alloc]; omega)))
  have R5_9 := hideIt (R5_8.out.below hb9 (by first | omega | (simp only [World.size_alloc]; omega)))
  clear hb9
  go_wp2_with fail
  refine (markIntS_any _ _ _ 1 _ _ _ R5_9.out (fun u hu => by simp only [ints, List.mem_map] at hu; obtain ⟨z, _, rfl⟩ := hu; exact ⟨z, rfl⟩) hd0 (by decide) (by decide)).mono ?_
  rintro e w10 ⟨rfl, hr10, hg10, hzz10⟩
  have ho10 := Row.grown_outside R5_9.out hg10
  have hz10 : w9.heap.size ≤ w10.heap.size := ho10.size
  have B_10 := hideIt (B_9.out.trans (ho10.below (B := w.heap.size) (by omega) (by omega)))
  have Va_10 := hideIt ((ho10.block _ (by omega) (by omega)).trans Va_9.out)
  have Vx_10 := hideIt ((ho10.block _ (by omega) (by omega)).trans Vx_9.out)
  have R2_10 := hideIt (R2_9.out.outside ho10 (by omega) (by omega))
  have R3_10 := hideIt (R3_9.out.outside ho10 (by omega) (by omega))
  have M5_10 := hideIt hr10
  clear hr10 ho10 hg10 hzz10
  go_wp2_with fail
  refine (heldIntS_any _ (unsZE ws ps).length 1 _ (RdI_marks M5_10.out) hd0 (by decide) (by decide)).mono ?_
  rintro e w11 ⟨rfl, hbe11⟩
  have hb11 : Below w10.heap.size w10 w11 := by rw [hbe11]; exact Below.refl _ _
  have hz11 : w10.heap.size ≤ w11.heap.size := by have := hb11.size; first | omega | (simp only [World.size_alloc] at this; omega)
  have B_11 := hideIt (below_trans B_10.out hb11 (by first | omega | (simp only [World.size_alloc]; omega)))
  have Va_11 := hideIt ((hb11.block _ (by first | omega | (simp only [World.size_alloc]; omega))).trans Va_10.out)
  have Vx_11 := hideIt ((hb11.block _ (by first | omega | (simp only [World.size_alloc]; omega))).trans Vx_10.out)
  have R2_11 := hideIt (R2_10.out.below hb11 (by first | omega | (simp only [World.size_alloc]; omega)))
  have R3_11 := hideIt (R3_10.out.below hb11 (by first | omega | (simp only [World.size_alloc]; omega)))
  have M5_11 := hideIt (M5_10.out.below hb11 (by omega))
  clear hb11 hbe11
  obtain ⟨la0, la1, la2, la3⟩ := two_cells Va_11.out
  go_wp2_with fail
  refine (toBlk_any _ ws ps _ (HR.out.below B_11.out) hws hps).mono ?_
  rintro e w12 ⟨v12, rfl, hr12, hb12⟩
  obtain ⟨vW12, vP12, rfl, hI12, hS12⟩ := hr12.rd
  obtain ⟨aW12, cW12, rfl⟩ := hI12.form rfl
  obtain ⟨aP12, cP12, rfl⟩ := hS12.form rfl
  have hz12 : w11.heap.size ≤ w12.heap.size := by have := hb12.size; first | omega | (simp only [World.size_alloc] at this; omega)
  have B_12 := hideIt (below_trans B_11.out hb12 (by first | omega | (simp only [World.size_alloc]; omega)))
  have Va_12 := hideIt ((hb12.block _ (by first | omega | (simp only [World.size_alloc]; omega))).trans Va_11.out)
  have Vx_12 := hideIt ((hb12.block _ (by first | omega | (simp only [World.size_alloc]; omega))).trans Vx_11.out)
  have R2_12 := hideIt (R2_11.out.below hb12 (by first | omega | (simp only [World.size_alloc]; omega)))
  have R3_12 := hideIt (R3_11.out.below hb12 (by first | omega | (simp only [World.size_alloc]; omega)))
  have M5_12 := hideIt (M5_11.out.below hb12 (by first | omega | (simp only [World.size_alloc]; omega)))
  have R12_12 := hideIt (hr12.wide (lo' := w11.heap.size) (hi' := w12.heap.size) (Nat.le_refl _) (Nat.le_refl _))
  clear la0 la1 la2 la3 hI12 hS12 hr12 hb12
  go_wp2_with fail
  refine (implBlkUnsure_any _ ws ps _ R12_12.out.rd (HG.out.below B_12.out) hws hps).mono ?_
  rintro e w13 ⟨v13, rfl, hr13, hb13⟩
  obtain ⟨aZ13, cZ13, rfl⟩ := RdI.form hr13.rd rfl
  have hz13 : w12.heap.size ≤ w13.heap.size := by have := hb13.size; first | omega | (simp only [World.size_alloc] at this; omega)
  have B_13 := hideIt (below_trans B_12.out hb13 (by first | omega | (simp only [World.size_alloc]; omega)))
  have Va_13 := hideIt ((hb13.block _ (by first | omega | (simp only [World.size_alloc]; omega))).trans Va_12.out)
  have Vx_13 := hideIt ((hb13.block _ (by first | omega | (simp only [World.size_alloc]; omega))).trans Vx_12.out)
  have R2_13 := hideIt (R2_12.out.below hb13 (by first | omega | (simp only [World.size_alloc]; omega)))
  have R3_13 := hideIt (R3_12.out.below hb13 (by first | omega | (simp only [World.size_alloc]; omega)))
  have R12_13 := hideIt (R12_12.out.below hb13 (by first | omega | (simp only [World.size_alloc]; omega)))
  have M5_13 := hideIt (M5_12.out.below hb13 (by first | omega | (simp only [World.size_alloc]; omega)))
  have R13_13 := hideIt (hr13.wide (lo' := w12.heap.size) (hi' := w13.heap.size) (Nat.le_refl _) (Nat.le_refl _))
  clear hr13 hb13
  go_wp2_with fail
  refine (eqIntS_same _ _ (unsZE ws ps) _ R13_13.out.rd R3_13.out.rd hd0).mono ?_
  rintro e w14 ⟨rfl, hb14⟩
  have hz14 : w13.heap.size ≤ w14.heap.size := by have := hb14.size; first | omega | (simp only [World.size_alloc] at this; omega)
  have B_14 := hideIt (below_trans B_13.out hb14 (by first | omega | (simp only [World.size_alloc]; omega)))
  have Va_14 := hideIt ((hb14.block _ (by first | omega | (simp only [World.size_alloc]; omega))).trans Va_13.out)
  have Vx_14 := hideIt ((hb14.block _ (by first | omega | (simp only [World.size_alloc]; omega))).trans Vx_13.out)
  have R2_14 := hideIt (R2_13.out.below hb14 (by first | omega | (simp only [World.size_alloc]; omega)))
  have R3_14 := hideIt (R3_13.out.below hb14 (by first | omega | (simp only [World.size_alloc]; omega)))
  have R12_14 := hideIt (R12_13.out.below hb14 (by first | omega | (simp only [World.size_alloc]; omega)))
  have R13_14 := hideIt (R13_13.out.below hb14 (by first | omega | (simp only [World.size_alloc]; omega)))
  have M5_14 := hideIt (M5_13.out.below hb14 (by first | omega | (simp only [World.size_alloc]; omega)))
  clear hb14
  go_wp2_with fail
  refine (heldIntS_any _ (unsZE ws ps).length 1 _ (RdI_marks M5_14.out) hd0 (by decide) (by decide)).mono ?_
  rintro e w15 ⟨rfl, hbe15⟩
  have hb15 : Below w14.heap.size w14 w15 := by rw [hbe15]; exact Below.refl _ _
  have hz15 : w14.heap.size ≤ w15.heap.size := by have := hb15.size; first | omega | (simp only [World.size_alloc] at this; omega)
  have B_15 := hideIt (below_trans B_14.out hb15 (by first | omega | (simp only [World.size_alloc]; omega)))
  have Va_15 := hideIt ((hb15.block _ (by first | omega | (simp only [World.size_alloc]; omega))).trans Va_14.out)
  have Vx_15 := hideIt ((hb15.block _ (by first | omega | (simp only [World.size_alloc]; omega))).trans Vx_14.out)
  have R2_15 := hideIt (R2_14.out.below hb15 (by first | omega | (simp only [World.size_alloc]; omega)))
  have R3_15 := hideIt (R3_14.out.below hb15 (by first | omega | (simp only [World.size_alloc]; omega)))
  have R12_15 := hideIt (R12_14.out.below hb15 (by first | omega | (simp only [World.size_alloc]; omega)))
  have R13_15 := hideIt (R13_14.out.below hb15 (by first | omega | (simp only [World.size_alloc]; omega)))
  have M5_15 := hideIt (M5_14.out.below hb15 (by omega))
  clear hb15 hbe15
  go_wp2
  go_ret
  exact ⟨rfl, B_15.out⟩
end Go.Proofs.YtenadnlgjobmdajDoor
