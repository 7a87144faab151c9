/- The law of BlkRead: the walk. -/
import Derived.Test.YtenadnlgjobmdaiDoorBlkReadI
namespace Go.Proofs.YtenadnlgjobmdaiDoor
open Go.RowKit

set_option maxHeartbeats 4000000 in
theorem blkRead_law (vW vP : Value) (ws : List Int) (ps : List Se) (at_ : Int) (w : World) (h1 : RdI w vW ws) (h2 : RdE w vP ps) (hG : NW w) (hw : ws.length ≤ maxLen) (hp : ps.length ≤ maxLen) :
    Calls Tryd.prog 3 #[.agg #[vW, vP], .int .i64 at_] w fun e w' => e = .returned (.bool true) ∧ Below w.heap.size w w' := by
  obtain ⟨aW, cW, rfl, _⟩ := h1.shape
  obtain ⟨aP, cP, rfl, _⟩ := h2.shape
  have HR : Hid (RdBlk w (.agg #[.slice aW ws.length cW, .slice aP ps.length cP]) ws ps) := ⟨_, _, rfl, h1, h2⟩
  have HG := hideIt hG
  clear h1 h2 hG
  have hb0 : Below w.heap.size w (w.alloc (.cells #[.slice aW ws.length cW, .slice aP ps.length cP] 25)) := (Below.refl _ _).alloc (Nat.le_refl _) _
  by_cases c : 1048576 < ws.length + ps.length
  · go_enter Tryd.func3, Tryd.ntmps3
    go_wp2_with fail
    refine (szBlk_any aW aP ws.length ps.length cW cP _ hw hp).mono ?_
    rw [if_pos c]
    rintro e w1 ⟨rfl, hb1⟩
    have B1 := hideIt (below_trans hb0 hb1 (by simp))
    clear hb0 hb1
    go_wp2
    go_ret
    exact ⟨rfl, B1.out⟩
  · have E := hideIt (show (if 1048576 < ws.length + ps.length then -1 else 1048576 - ws.length - ps.length : Int) = 1048576 - ws.length - ps.length from if_neg c)
    have hws : ws.length ≤ 1048576 := by omega
    have hps : ps.length ≤ 1048576 := by omega
    go_enter Tryd.func3, Tryd.ntmps3
    go_wp2_with fail
    refine (szBlk_any aW aP ws.length ps.length cW cP _ hw hp).mono ?_
    rw [E.out]
    rintro e w1 ⟨rfl, hb1⟩
    have V1 := (hb1.block w.heap.size (by simp)).trans (at_new rfl)
    have hz1 : w.heap.size < w1.heap.size := by have := hb1.size; simp at this; omega
    have B1 := hideIt (below_trans hb0 hb1 (by simp))
    obtain ⟨x1, x2, _, _⟩ := two_cells V1
    have VH := hideIt V1
    clear hb0 hb1 V1
    go_wp2_with fail
    refine (toBlk_any _ ws ps _ (HR.out.below B1.out) hws hps).mono ?_
    rintro e w2 ⟨v2, rfl, hr2, hb2⟩
    obtain ⟨vW2, vP2, rfl, hI2, hS2⟩ := hr2.rd
    obtain ⟨aW2, cW2, rfl, _⟩ := hI2.shape
    obtain ⟨aP2, cP2, rfl, _⟩ := hS2.shape
    have B2 := hideIt (below_trans B1.out hb2 (by omega))
    have V2 := hideIt ((hb2.block _ hz1).trans VH.out)
    have hz2 := hb2.size
    have R2 := hideIt hr2.rd
    clear hb2 hr2 hI2 hS2 x1 x2
    go_wp2_with fail
    refine (specBlkRead_any _ ws ps at_ _ R2.out hws hps).mono ?_
    rintro e w3 ⟨rfl, hb3⟩
    have B3 := hideIt (below_trans B2.out hb3 (by omega))
    have V3 := hideIt ((hb3.block _ (by omega)).trans V2.out)
    have hz3 := hb3.size
    obtain ⟨x1, x2, _, _⟩ := two_cells V3.out
    clear hb3
    go_wp2_with fail
    refine (toBlk_any _ ws ps _ (HR.out.below B3.out) hws hps).mono ?_
    rintro e w4 ⟨v4, rfl, hr4, hb4⟩
    obtain ⟨vW4, vP4, rfl, hI4, hS4⟩ := hr4.rd
    obtain ⟨aW4, cW4, rfl, _⟩ := hI4.shape
    obtain ⟨aP4, cP4, rfl, _⟩ := hS4.shape
    have B4 := hideIt (below_trans B3.out hb4 (by omega))
    have V4 := hideIt ((hb4.block _ (by omega)).trans V3.out)
    have hz4 := hb4.size
    have R4 := hideIt hr4.rd
    clear hb4 hr4 hI4 hS4 x1 x2
    go_wp2_with fail
    have hb5 : Below w4.heap.size w4 (w4.alloc (.cells #[.slice aW4 ws.length cW4, .slice aP4 ps.length cP4] 31)) := (Below.refl _ _).alloc (Nat.le_refl _) _
    refine (implBlkRead_any _ ws ps at_ _ (R4.out.below hb5) ((HG.out.below B4.out).below hb5) hws hps).mono ?_
    rintro e w6 ⟨rfl, hb6⟩
    have B6 := hideIt (below_trans B4.out (hb5.trans (hb6.mono (by simp))) (by omega))
    have V5 := hideIt ((hb6.block w4.heap.size (by simp)).trans (at_new rfl))
    have V6 := hideIt ((hb6.block _ (by simp; omega)).trans (at_old V4.out))
    have R6 := hideIt ((R4.out.below hb5).below hb6)
    have hz6 : w4.heap.size < w6.heap.size := by have := hb6.size; simp at this; omega
    obtain ⟨x1, x2, _, _⟩ := two_cells V5.out
    obtain ⟨x3, x4, _, _⟩ := two_cells V6.out
    have hzz : w.heap.size < w6.heap.size := by omega
    clear hb5 hb6 V2 V3 V4 R4 R2
    go_wp2_with fail
    go_region_with (first
      | (go_at_call 6; refine (toBlk_any _ ws ps _ (by first | exact HR.out.below B6.out.drew | exact HR.out.below B6.out) hws hps).mono ?_; rintro e w7 ⟨v7, rfl, hr7, hb7⟩; obtain ⟨vW7, vP7, rfl, hI7, hS7⟩ := hr7.rd; obtain ⟨aW7, cW7, rfl, _⟩ := hI7.shape; obtain ⟨aP7, cP7, rfl, _⟩ := hS7.shape; obtain ⟨y1, y2, _, _⟩ := two_cells ((hb7.block w4.heap.size hz6).trans V5.out))
      | (go_at_call 8; refine (eqBlk_same _ _ ws ps _ (by first | exact (R6.out.below ((Below.refl _ _).drew)).below ‹_› | exact R6.out.below ‹_›) (by exact RowBlk.rd ‹_›) (by omega) (by omega)).mono ?_; rintro e w8 ⟨rfl, hb8⟩))
    all_goals
      go_wp2
      go_ret
      have hz7 := hb7.size
      exact ⟨rfl, (below_trans B6.out.drew hb7 (Nat.le_of_lt hzz)).trans (hb8.mono (Nat.le_trans (Nat.le_of_lt hzz) hz7))⟩
end Go.Proofs.YtenadnlgjobmdaiDoor
