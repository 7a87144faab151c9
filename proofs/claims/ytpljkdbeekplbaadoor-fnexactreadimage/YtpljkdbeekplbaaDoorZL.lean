/- Several texts laid together: LawReadImage, Open. -/
import Derived.Test.YtpljkdbeekplbaaDoorZD
import Derived.Test.YtpljkdbeekplbaaDoorZI
import Derived.Deep.DeepCutAuto
import Derived.Deep.RegionWith
import Derived.Test.YtpljkdbeekplbaaDoorZP
import Derived.Test.YtpljkdbeekplbaaDoorOpenA
namespace Go.Proofs.YtpljkdbeekplbaaDoor
open Go.RowKit

theorem riN_len (ws : List Int) (ps : List St) : (riN ws ps).length ≤ 16 := by
  unfold riN
  split
  · rw [inosOf_len]; exact Nat.le_refl _
  · exact Nat.zero_le _
theorem riD_len (ws : List Int) (ps : List St) : (riD ws ps).length ≤ 24 := by
  unfold riD
  split
  · rw [densOf_len]; exact Nat.le_refl _
  · exact Nat.zero_le _
theorem RowIm.alloc {w : World} {lo hi : Nat} {v : Value} {ws : List Ino} {ps : List Den} (h : RowIm w lo hi v ws ps) (hz : hi ≤ w.heap.size) (o : Obj) : RowIm (w.alloc o) lo hi v ws ps := h.below ((Below.refl w.heap.size w).alloc (Nat.le_refl _) o) hz
/-- An image that bears its marks. -/
def MkIm (w : World) (lo hi : Nat) (v : Value) (n m : Nat) (k0 : Int) : Prop := ∃ vW vP, v = .agg #[vW, vP] ∧ Row w 76 11 lo hi vW n (ints (marks k0 (n * 11))) ∧ Row w 79 3 lo hi vP m (dens (marksD (k0 + 11 * n) m))
theorem MkIm.below {w w' : World} {lo hi : Nat} {v : Value} {n m : Nat} {k0 : Int} (h : MkIm w lo hi v n m k0) {B : Nat} (hb : Below B w w') (hB : hi ≤ B) : MkIm w' lo hi v n m k0 := by
  obtain ⟨vW, vP, e, a, b⟩ := h
  exact ⟨vW, vP, e, a.below hb hB, b.below hb hB⟩
theorem MkIm.alloc {w : World} {lo hi : Nat} {v : Value} {n m : Nat} {k0 : Int} (h : MkIm w lo hi v n m k0) (hz : hi ≤ w.heap.size) (o : Obj) : MkIm (w.alloc o) lo hi v n m k0 := h.below ((Below.refl w.heap.size w).alloc (Nat.le_refl _) o) hz
theorem heldImage_mk (v : Value) (n m : Nat) (k0 : Int) (w : World) {lo hi : Nat} (h : MkIm w lo hi v n m k0) (hn : n ≤ 16777216) (hm : m ≤ 16777216) (h0 : 0 ≤ k0) (h1 : k0 ≤ 1048576) :
    Calls Tryd.prog 18 #[v, .int .i64 k0] w fun e w' => e = .returned (.int .i64 (k0 + 11 * n + 3 * m)) ∧ Below w.heap.size w w' := by
  obtain ⟨vW, vP, rfl, a, b⟩ := h
  exact heldImage_any vW vP n m k0 w a.rd (by unfold RdD; rw [marksD_len]; exact b.rd) hn hm h0 h1

set_option maxRecDepth 100000 in
set_option maxHeartbeats 8000000 in
theorem readImage_law (vW vP : Value) (ws : List Int) (ps : List St) (w : World) (h1 : RdI w vW ws) (h2 : RdS w vP ps) (hw : ws.length ≤ maxLen) (hp : ps.length ≤ maxLen) (hT : TS w) (hE : ED w) (hF : FD w) :
    Calls Tryd.prog 3 #[.agg #[vW, vP]] w fun e w' => e = .returned (.bool true) ∧ Below w.heap.size w w' := by
  obtain ⟨aW, cW, rfl, _⟩ := h1.shape
  obtain ⟨aP, cP, rfl, _⟩ := h2.shape
  have HR : Hid (RdPm w (.agg #[.slice aW ws.length cW, .slice aP ps.length cP]) ws ps) := ⟨_, _, rfl, h1, h2⟩
  clear h1 h2
  have hb0 : Below w.heap.size w (w.alloc (.cells #[.slice aW ws.length cW, .slice aP ps.length cP] 25)) := (Below.refl _ _).alloc (Nat.le_refl _) _
  by_cases c : 1048576 < ws.length + ps.length
  · go_enter Tryd.func3, Tryd.ntmps3
    go_wp2_with fail
    refine (szPm_any aW aP ws.length ps.length cW cP _ hw hp).mono ?_
    rw [if_pos c]
    rintro e w1 ⟨rfl, hb1⟩
    have B1 := hideIt (below_trans hb0 hb1 (by simp))
    clear hb0 hb1
    go_wp2
    go_ret
    exact ⟨rfl, B1.out⟩
  have E := hideIt (show (if 1048576 < ws.length + ps.length then -1 else 1048576 - ws.length - ps.length : Int) = 1048576 - ws.length - ps.length from if_neg c)
  have hws : ws.length ≤ 1048576 := by omega
  have hps : ps.length ≤ 1048576 := by omega
  have IC := hideIt (fun v w1 (hb : Below w.heap.size w w1) h => implReadImage_any v ws ps w1 h hws hps (hT.below hb) (hE.below hb) (hF.below hb))
  have SC := hideIt (fun v w1 h => specReadImage_any v ws ps w1 h hws hps)
  have hd0 : (riN ws ps).length ≤ 16 := riN_len ws ps
  have hd1 : (riD ws ps).length ≤ 24 := riD_len ws ps
  clear hT hE hF
  generalize riC ws ps = rc at *
  generalize riN ws ps = rn at *
  generalize riD ws ps = rd at *
  have ng : ¬ ((1 : Int) + 11 * (rn.length : Int) + 3 * (rd.length : Int) < 0) := by omega
  go_enter Tryd.func3, Tryd.ntmps3
  go_wp2_with fail
  refine (szPm_any aW aP ws.length ps.length cW cP _ hw hp).mono ?_
  rw [E.out]
  rintro e w1 ⟨rfl, hb1⟩
  have hz1 : w.heap.size + 1 ≤ w1.heap.size := by have := hb1.size; simp at this; omega
  have Va_1 := hideIt ((hb1.block w.heap.size (by simp)).trans (at_new rfl))
  have B_1 := hideIt (below_trans hb0 hb1 (by simp))
  clear hb0 hb1
  obtain ⟨la0, la1, la2, la3⟩ := two_cells Va_1.out
  go_wp2_with fail
  refine (toPm_any _ ws ps _ (HR.out.below B_1.out) hws hps).mono ?_
  rintro e w2 ⟨v2, rfl, hr2, hb2⟩
  obtain ⟨vW2, vP2, rfl, hI2, hS2⟩ := hr2.rd
  obtain ⟨aW2, cW2, rfl⟩ := hI2.form rfl
  obtain ⟨aP2, cP2, rfl⟩ := hS2.form rfl
  have hz2 : w1.heap.size ≤ w2.heap.size := by have := hb2.size; first | omega | (simp only [World.size_alloc] at this; omega)
  have B_2 := hideIt (below_trans B_1.out hb2 (by first | omega | (simp only [World.size_alloc]; omega)))
  have Va_2 := hideIt ((hb2.block _ (by first | omega | (simp only [World.size_alloc]; omega))).trans Va_1.out)
  have R2_2 := hideIt (hr2.wide (lo' := w1.heap.size) (hi' := w2.heap.size) (by first | omega | (simp only [World.size_alloc]; omega)) (Nat.le_refl _))
  clear la0 la1 la2 la3 hI2 hS2 hr2 hb2
  go_wp2_with fail
  refine (SC.out _ _ R2_2.out.rd).mono ?_
  rintro e w3 ⟨v3, rfl, hr3, hb3⟩
  obtain ⟨vW3, vP3, rfl, hI3, hS3⟩ := hr3.rd
  obtain ⟨aW3, cW3, rfl, _⟩ := hI3.shape
  obtain ⟨aP3, cP3, rfl, _⟩ := hS3.shape
  have hz3 : w2.heap.size ≤ w3.heap.size := by have := hb3.size; first | omega | (simp only [World.size_alloc] at this; omega)
  have B_3 := hideIt (below_trans B_2.out hb3 (by first | omega | (simp only [World.size_alloc]; omega)))
  have Va_3 := hideIt ((hb3.block _ (by first | omega | (simp only [World.size_alloc]; omega))).trans Va_2.out)
  have R2_3 := hideIt (R2_2.out.below hb3 (by first | omega | (simp only [World.size_alloc]; omega)))
  have R3_3 := hideIt (hr3.wide (lo' := w2.heap.size) (hi' := w3.heap.size) (by first | omega | (simp only [World.size_alloc]; omega)) (Nat.le_refl _))
  clear hI3 hS3 hr3 hb3
  have B_3b := hideIt (B_3.out.alloc (by omega) (.cells #[.slice aW3 rn.length cW3, .slice aP3 rd.length cP3] 30))
  have Va_3b := hideIt (at_old (o := .cells #[.slice aW3 rn.length cW3, .slice aP3 rd.length cP3] 30) Va_3.out)
  have R2_3b := hideIt (R2_3.out.alloc (by omega) (.cells #[.slice aW3 rn.length cW3, .slice aP3 rd.length cP3] 30))
  have R3_3b := hideIt (R3_3.out.alloc (by omega) (.cells #[.slice aW3 rn.length cW3, .slice aP3 rd.length cP3] 30))
  have Vs_3b : Hid ((w3.alloc (.cells #[.slice aW3 rn.length cW3, .slice aP3 rd.length cP3] 30)).heap[w3.heap.size]? = some (.cells #[.slice aW3 rn.length cW3, .slice aP3 rd.length cP3] 30 (0, 0))) := at_new rfl
  obtain ⟨la0, la1, la2, la3⟩ := two_cells Va_3b.out
  go_wp2_with fail
  refine (toPm_any _ ws ps _ (HR.out.below B_3b.out) hws hps).mono ?_
  rintro e w4 ⟨v4, rfl, hr4, hb4⟩
  obtain ⟨vW4, vP4, rfl, hI4, hS4⟩ := hr4.rd
  obtain ⟨aW4, cW4, rfl⟩ := hI4.form rfl
  obtain ⟨aP4, cP4, rfl⟩ := hS4.form rfl
  have hz4 : w3.heap.size + 1 ≤ w4.heap.size := by have := hb4.size; first | omega | (simp only [World.size_alloc] at this; omega)
  have B_4 := hideIt (below_trans B_3b.out hb4 (by first | omega | (simp only [World.size_alloc]; omega)))
  have Va_4 := hideIt ((hb4.block _ (by first | omega | (simp only [World.size_alloc]; omega))).trans Va_3b.out)
  have Vs_4 := hideIt ((hb4.block _ (by first | omega | (simp only [World.size_alloc]; omega))).trans Vs_3b.out)
  have R2_4 := hideIt (R2_3b.out.below hb4 (by first | omega | (simp only [World.size_alloc]; omega)))
  have R3_4 := hideIt (R3_3b.out.below hb4 (by first | omega | (simp only [World.size_alloc]; omega)))
  have R4_4 := hideIt (hr4.wide (lo' := w3.heap.size + 1) (hi' := w4.heap.size) (by first | omega | (simp only [World.size_alloc]; omega)) (Nat.le_refl _))
  clear la0 la1 la2 la3 hI4 hS4 hr4 hb4
  have B_4b := hideIt (B_4.out.alloc (by omega) (.cells #[.slice aW4 ws.length cW4, .slice aP4 ps.length cP4] 35))
  have Va_4b := hideIt (at_old (o := .cells #[.slice aW4 ws.length cW4, .slice aP4 ps.length cP4] 35) Va_4.out)
  have Vs_4b := hideIt (at_old (o := .cells #[.slice aW4 ws.length cW4, .slice aP4 ps.length cP4] 35) Vs_4.out)
  have R2_4b := hideIt (R2_4.out.alloc (by omega) (.cells #[.slice aW4 ws.length cW4, .slice aP4 ps.length cP4] 35))
  have R3_4b := hideIt (R3_4.out.alloc (by omega) (.cells #[.slice aW4 ws.length cW4, .slice aP4 ps.length cP4] 35))
  have R4_4b := hideIt (R4_4.out.alloc (by omega) (.cells #[.slice aW4 ws.length cW4, .slice aP4 ps.length cP4] 35))
  have Vx_4b : Hid ((w4.alloc (.cells #[.slice aW4 ws.length cW4, .slice aP4 ps.length cP4] 35)).heap[w4.heap.size]? = some (.cells #[.slice aW4 ws.length cW4, .slice aP4 ps.length cP4] 35 (0, 0))) := at_new rfl
  obtain ⟨lx0, lx1, lx2, lx3⟩ := two_cells Vx_4b.out
  go_wp2_with fail
  refine (IC.out _ _ B_4b.out R4_4b.out.rd).mono ?_
  rintro e w5 ⟨v5, rfl, hr5, hb5⟩
  obtain ⟨vW5, vP5, rfl, hI5, hS5⟩ := hr5.rd
  obtain ⟨aW5, cW5, rfl, _⟩ := hI5.shape
  obtain ⟨aP5, cP5, rfl, _⟩ := hS5.shape
  have hz5 : w4.heap.size + 1 ≤ w5.heap.size := by have := hb5.size; first | omega | (simp only [World.size_alloc] at this; omega)
  have B_5 := hideIt (below_trans B_4b.out hb5 (by first | omega | (simp only [World.size_alloc]; omega)))
  have Va_5 := hideIt ((hb5.block _ (by first | omega | (simp only [World.size_alloc]; omega))).trans Va_4b.out)
  have Vs_5 := hideIt ((hb5.block _ (by first | omega | (simp only [World.size_alloc]; omega))).trans Vs_4b.out)
  have Vx_5 := hideIt ((hb5.block _ (by first | omega | (simp only [World.size_alloc]; omega))).trans Vx_4b.out)
  have R2_5 := hideIt (R2_4b.out.below hb5 (by first | omega | (simp only [World.size_alloc]; omega)))
  have R3_5 := hideIt (R3_4b.out.below hb5 (by first | omega | (simp only [World.size_alloc]; omega)))
  have R4_5 := hideIt (R4_4b.out.below hb5 (by first | omega | (simp only [World.size_alloc]; omega)))
  have R5_5 := hideIt (hr5.wide (lo' := w4.heap.size + 1) (hi' := w5.heap.size) (by first | omega | (simp only [World.size_alloc]; omega)) (Nat.le_refl _))
  clear hI5 hS5 hr5 hb5
  clear lx0 lx1 lx2 lx3
  have B_5b := hideIt (B_5.out.alloc (by omega) (.cells #[.slice aW5 rn.length cW5, .slice aP5 rd.length cP5] 30))
  have Va_5b := hideIt (at_old (o := .cells #[.slice aW5 rn.length cW5, .slice aP5 rd.length cP5] 30) Va_5.out)
  have Vs_5b := hideIt (at_old (o := .cells #[.slice aW5 rn.length cW5, .slice aP5 rd.length cP5] 30) Vs_5.out)
  have Vx_5b := hideIt (at_old (o := .cells #[.slice aW5 rn.length cW5, .slice aP5 rd.length cP5] 30) Vx_5.out)
  have R2_5b := hideIt (R2_5.out.alloc (by omega) (.cells #[.slice aW5 rn.length cW5, .slice aP5 rd.length cP5] 30))
  have R3_5b := hideIt (R3_5.out.alloc (by omega) (.cells #[.slice aW5 rn.length cW5, .slice aP5 rd.length cP5] 30))
  have R4_5b := hideIt (R4_5.out.alloc (by omega) (.cells #[.slice aW5 rn.length cW5, .slice aP5 rd.length cP5] 30))
  have R5_5b := hideIt (R5_5.out.alloc (by omega) (.cells #[.slice aW5 rn.length cW5, .slice aP5 rd.length cP5] 30))
  have Vg_5b : Hid ((w5.alloc (.cells #[.slice aW5 rn.length cW5, .slice aP5 rd.length cP5] 30)).heap[w5.heap.size]? = some (.cells #[.slice aW5 rn.length cW5, .slice aP5 rd.length cP5] 30 (0, 0))) := at_new rfl
  obtain ⟨lg0, lg1, lg2, lg3⟩ := two_cells Vg_5b.out
  obtain ⟨ls0, ls1, ls2, ls3⟩ := two_cells Vs_5b.out
  go_wp2_with fail
  refine (eqImage_same _ _ rn rd _ R5_5b.out.rd R3_5b.out.rd (by omega) (by omega)).mono ?_
  rintro e w6 ⟨rfl, hb6⟩
  have hz6 : w5.heap.size + 1 ≤ w6.heap.size := by have := hb6.size; first | omega | (simp only [World.size_alloc] at this; omega)
  have B_6 := hideIt (below_trans B_5b.out hb6 (by first | omega | (simp only [World.size_alloc]; omega)))
  have Va_6 := hideIt ((hb6.block _ (by first | omega | (simp only [World.size_alloc]; omega))).trans Va_5b.out)
  have Vs_6 := hideIt ((hb6.block _ (by first | omega | (simp only [World.size_alloc]; omega))).trans Vs_5b.out)
  have Vx_6 := hideIt ((hb6.block _ (by first | omega | (simp only [World.size_alloc]; omega))).trans Vx_5b.out)
  have Vg_6 := hideIt ((hb6.block _ (by first | omega | (simp only [World.size_alloc]; omega))).trans Vg_5b.out)
  have R2_6 := hideIt (R2_5b.out.below hb6 (by first | omega | (simp only [World.size_alloc]; omega)))
  have R3_6 := hideIt (R3_5b.out.below hb6 (by first | omega | (simp only [World.size_alloc]; omega)))
  have R4_6 := hideIt (R4_5b.out.below hb6 (by first | omega | (simp only [World.size_alloc]; omega)))
  have R5_6 := hideIt (R5_5b.out.below hb6 (by first | omega | (simp only [World.size_alloc]; omega)))
  clear lg0 lg1 lg2 lg3 ls0 ls1 ls2 ls3 hb6
  obtain ⟨la0, la1, la2, la3⟩ := two_cells Va_6.out
  obtain ⟨lx0, lx1, lx2, lx3⟩ := two_cells Vx_6.out
  go_upto_region 10 with fail
  go_cut [45] (fun s wx => s = .bool false ∧ Below w6.heap.size w6 wx)
  case first =>
    go_region_with (first
      | (go_at_call 12; refine (toPm_any _ ws ps _ (by first | exact HR.out.below B_6.out.drew | exact HR.out.below B_6.out) hws hps).mono ?_; rintro e wa ⟨va, rfl, hra, hba⟩; obtain ⟨vWa, vPa, rfl, hIa, hSa⟩ := hra.rd; obtain ⟨aWa, cWa, rfl⟩ := hIa.form rfl; obtain ⟨aPa, cPa, rfl⟩ := hSa.form rfl; obtain ⟨y1, y2, _, _⟩ := two_cells ((hba.block w4.heap.size (show w4.heap.size < w6.heap.size by omega)).trans Vx_6.out))
      | (go_at_call 15; refine (eqPm_same _ _ ws ps _ (by first | exact (R4_6.out.rd.below ((Below.refl _ _).drew)).below ‹_› | exact R4_6.out.rd.below ‹_›) (by exact RowPm.rd ‹_›) (by omega) (by omega)).mono ?_; rintro e wb ⟨rfl, hbb⟩))
    all_goals
      go_wp2_with fail
      go_meet
      have hza := hba.size
      exact ⟨rfl, (below_trans ((Below.refl _ _).drew) hba (Nat.le_refl _)).trans (hbb.mono hza)⟩
  case rest =>
  obtain ⟨rfl, hb7⟩ := hcut
  clear la0 la1 la2 la3 lx0 lx1 lx2 lx3
  have hz7 := hb7.size
  have B_7 := hideIt (below_trans B_6.out hb7 (by omega))
  have Va_7 := hideIt ((hb7.block _ (by omega)).trans Va_6.out)
  have Vs_7 := hideIt ((hb7.block _ (by omega)).trans Vs_6.out)
  have Vx_7 := hideIt ((hb7.block _ (by omega)).trans Vx_6.out)
  have Vg_7 := hideIt ((hb7.block _ (by omega)).trans Vg_6.out)
  have R2_7 := hideIt (R2_6.out.below hb7 (by omega))
  have R3_7 := hideIt (R3_6.out.below hb7 (by omega))
  have R4_7 := hideIt (R4_6.out.below hb7 (by omega))
  have R5_7 := hideIt (R5_6.out.below hb7 (by omega))
  clear hb7
  obtain ⟨lx0, lx1, lx2, lx3⟩ := two_cells Vx_7.out
  go_wp2_with fail
  refine (markPm_any _ (ws) (ps) 1 _ _ _ R4_7.out (by omega) (by omega) (by omega) (by decide) (by decide)).mono ?_
  rintro e w8 ⟨rfl, hr8, ho8⟩
  have hz8 : wc.heap.size ≤ w8.heap.size := ho8.size
  have B_8 := hideIt (B_7.out.trans (ho8.below (B := w.heap.size) (by omega) (by omega)))
  have Va_8 := hideIt ((ho8.block _ (by omega) (by omega)).trans Va_7.out)
  have Vs_8 := hideIt ((ho8.block _ (by omega) (by omega)).trans Vs_7.out)
  have Vx_8 := hideIt ((ho8.block _ (by omega) (by omega)).trans Vx_7.out)
  have Vg_8 := hideIt ((ho8.block _ (by omega) (by omega)).trans Vg_7.out)
  have R2_8 := hideIt (R2_7.out.outside ho8 (by omega) (by omega))
  have R3_8 := hideIt (R3_7.out.outside ho8 (by omega) (by omega))
  have R5_8 := hideIt (R5_7.out.outside ho8 (by omega) (by omega))
  have M4_8 := hideIt hr8
  clear lx0 lx1 lx2 lx3 hr8 ho8
  obtain ⟨lg0, lg1, lg2, lg3⟩ := two_cells Vg_8.out
  obtain ⟨ls0, ls1, ls2, ls3⟩ := two_cells Vs_8.out
  go_wp2_with fail
  refine (eqImage_same _ _ rn rd _ R5_8.out.rd R3_8.out.rd (by omega) (by omega)).mono ?_
  rintro e w9 ⟨rfl, hb9⟩
  have hz9 : w8.heap.size ≤ w9.heap.size := by have := hb9.size; first | omega | (simp only [World.size_alloc] at this; omega)
  have B_9 := hideIt (below_trans B_8.out hb9 (by first | omega | (simp only [World.size_alloc]; omega)))
  have Va_9 := hideIt ((hb9.block _ (by first | omega | (simp only [World.size_alloc]; omega))).trans Va_8.out)
  have Vs_9 := hideIt ((hb9.block _ (by first | omega | (simp only [World.size_alloc]; omega))).trans Vs_8.out)
  have Vx_9 := hideIt ((hb9.block _ (by first | omega | (simp only [World.size_alloc]; omega))).trans Vx_8.out)
  have Vg_9 := hideIt ((hb9.block _ (by first | omega | (simp only [World.size_alloc]; omega))).trans Vg_8.out)
  have R2_9 := hideIt (R2_8.out.below hb9 (by first | omega | (simp only [World.size_alloc]; omega)))
  have R3_9 := hideIt (R3_8.out.below hb9 (by first | omega | (simp only [World.size_alloc]; omega)))
  have R5_9 := hideIt (R5_8.out.below hb9 (by first | omega | (simp only [World.size_alloc]; omega)))
  clear lg0 lg1 lg2 lg3 ls0 ls1 ls2 ls3 hb9
  obtain ⟨lg0, lg1, lg2, lg3⟩ := two_cells Vg_9.out
  go_wp2_with fail
  refine (markImage_any _ rn rd 1 _ _ _ R5_9.out (by omega) (by omega) (by omega) (by decide) (by decide)).mono ?_
  rintro e w10 ⟨rfl, hr10, ho10⟩
  have hz10 : w9.heap.size ≤ w10.heap.size := ho10.size
  have B_10 := hideIt (B_9.out.trans (ho10.below (B := w.heap.size) (by omega) (by omega)))
  have Va_10 := hideIt ((ho10.block _ (by omega) (by omega)).trans Va_9.out)
  have Vs_10 := hideIt ((ho10.block _ (by omega) (by omega)).trans Vs_9.out)
  have Vx_10 := hideIt ((ho10.block _ (by omega) (by omega)).trans Vx_9.out)
  have Vg_10 := hideIt ((ho10.block _ (by omega) (by omega)).trans Vg_9.out)
  have R2_10 := hideIt (R2_9.out.outside ho10 (by omega) (by omega))
  have R3_10 := hideIt (R3_9.out.outside ho10 (by omega) (by omega))
  have M5_10 : Hid (MkIm w10 _ _ _ rn.length rd.length 1) := hr10
  clear lg0 lg1 lg2 lg3 hr10 ho10
  obtain ⟨lg0, lg1, lg2, lg3⟩ := two_cells Vg_10.out
  go_wp2_with fail
  refine (heldImage_mk _ rn.length rd.length 1 _ M5_10.out (by omega) (by omega) (by decide) (by decide)).mono ?_
  rintro e w11 ⟨rfl, hb11⟩
  have hz11 : w10.heap.size ≤ w11.heap.size := by have := hb11.size; first | omega | (simp only [World.size_alloc] at this; omega)
  have B_11 := hideIt (below_trans B_10.out hb11 (by first | omega | (simp only [World.size_alloc]; omega)))
  have Va_11 := hideIt ((hb11.block _ (by first | omega | (simp only [World.size_alloc]; omega))).trans Va_10.out)
  have Vs_11 := hideIt ((hb11.block _ (by first | omega | (simp only [World.size_alloc]; omega))).trans Vs_10.out)
  have Vx_11 := hideIt ((hb11.block _ (by first | omega | (simp only [World.size_alloc]; omega))).trans Vx_10.out)
  have Vg_11 := hideIt ((hb11.block _ (by first | omega | (simp only [World.size_alloc]; omega))).trans Vg_10.out)
  have R2_11 := hideIt (R2_10.out.below hb11 (by first | omega | (simp only [World.size_alloc]; omega)))
  have R3_11 := hideIt (R3_10.out.below hb11 (by first | omega | (simp only [World.size_alloc]; omega)))
  have M5_11 := hideIt (M5_10.out.below hb11 (by omega))
  clear lg0 lg1 lg2 lg3 hb11
  obtain ⟨la0, la1, la2, la3⟩ := two_cells Va_11.out
  go_wp2_with fail
  refine (toPm_any _ ws ps _ (HR.out.below B_11.out) hws hps).mono ?_
  rintro e w12 ⟨v12, rfl, hr12, hb12⟩
  obtain ⟨vW12, vP12, rfl, hI12, hS12⟩ := hr12.rd
  obtain ⟨aW12, cW12, rfl⟩ := hI12.form rfl
  obtain ⟨aP12, cP12, rfl⟩ := hS12.form rfl
  have hz12 : w11.heap.size ≤ w12.heap.size := by have := hb12.size; first | omega | (simp only [World.size_alloc] at this; omega)
  have B_12 := hideIt (below_trans B_11.out hb12 (by first | omega | (simp only [World.size_alloc]; omega)))
  have Va_12 := hideIt ((hb12.block _ (by first | omega | (simp only [World.size_alloc]; omega))).trans Va_11.out)
  have Vs_12 := hideIt ((hb12.block _ (by first | omega | (simp only [World.size_alloc]; omega))).trans Vs_11.out)
  have Vx_12 := hideIt ((hb12.block _ (by first | omega | (simp only [World.size_alloc]; omega))).trans Vx_11.out)
  have Vg_12 := hideIt ((hb12.block _ (by first | omega | (simp only [World.size_alloc]; omega))).trans Vg_11.out)
  have R2_12 := hideIt (R2_11.out.below hb12 (by first | omega | (simp only [World.size_alloc]; omega)))
  have R3_12 := hideIt (R3_11.out.below hb12 (by first | omega | (simp only [World.size_alloc]; omega)))
  have M5_12 := hideIt (M5_11.out.below hb12 (by first | omega | (simp only [World.size_alloc]; omega)))
  have R12_12 := hideIt (hr12.wide (lo' := w11.heap.size) (hi' := w12.heap.size) (Nat.le_refl _) (Nat.le_refl _))
  clear la0 la1 la2 la3 hI12 hS12 hr12 hb12
  go_wp2_with fail
  refine (IC.out _ _ B_12.out R12_12.out.rd).mono ?_
  rintro e w13 ⟨v13, rfl, hr13, hb13⟩
  obtain ⟨vW13, vP13, rfl, hI13, hS13⟩ := hr13.rd
  obtain ⟨aW13, cW13, rfl, _⟩ := hI13.shape
  obtain ⟨aP13, cP13, rfl, _⟩ := hS13.shape
  have hz13 : w12.heap.size ≤ w13.heap.size := by have := hb13.size; first | omega | (simp only [World.size_alloc] at this; omega)
  have B_13 := hideIt (below_trans B_12.out hb13 (by first | omega | (simp only [World.size_alloc]; omega)))
  have Va_13 := hideIt ((hb13.block _ (by first | omega | (simp only [World.size_alloc]; omega))).trans Va_12.out)
  have Vs_13 := hideIt ((hb13.block _ (by first | omega | (simp only [World.size_alloc]; omega))).trans Vs_12.out)
  have Vx_13 := hideIt ((hb13.block _ (by first | omega | (simp only [World.size_alloc]; omega))).trans Vx_12.out)
  have Vg_13 := hideIt ((hb13.block _ (by first | omega | (simp only [World.size_alloc]; omega))).trans Vg_12.out)
  have R2_13 := hideIt (R2_12.out.below hb13 (by first | omega | (simp only [World.size_alloc]; omega)))
  have R3_13 := hideIt (R3_12.out.below hb13 (by first | omega | (simp only [World.size_alloc]; omega)))
  have R12_13 := hideIt (R12_12.out.below hb13 (by first | omega | (simp only [World.size_alloc]; omega)))
  have M5_13 := hideIt (M5_12.out.below hb13 (by first | omega | (simp only [World.size_alloc]; omega)))
  have R13_13 := hideIt (hr13.wide (lo' := w12.heap.size) (hi' := w13.heap.size) (Nat.le_refl _) (Nat.le_refl _))
  clear hI13 hS13 hr13 hb13
  have B_13b := hideIt (B_13.out.alloc (by omega) (.cells #[.slice aW13 rn.length cW13, .slice aP13 rd.length cP13] 30))
  have Va_13b := hideIt (at_old (o := .cells #[.slice aW13 rn.length cW13, .slice aP13 rd.length cP13] 30) Va_13.out)
  have Vs_13b := hideIt (at_old (o := .cells #[.slice aW13 rn.length cW13, .slice aP13 rd.length cP13] 30) Vs_13.out)
  have Vx_13b := hideIt (at_old (o := .cells #[.slice aW13 rn.length cW13, .slice aP13 rd.length cP13] 30) Vx_13.out)
  have Vg_13b := hideIt (at_old (o := .cells #[.slice aW13 rn.length cW13, .slice aP13 rd.length cP13] 30) Vg_13.out)
  have R2_13b := hideIt (R2_13.out.alloc (by omega) (.cells #[.slice aW13 rn.length cW13, .slice aP13 rd.length cP13] 30))
  have R3_13b := hideIt (R3_13.out.alloc (by omega) (.cells #[.slice aW13 rn.length cW13, .slice aP13 rd.length cP13] 30))
  have R12_13b := hideIt (R12_13.out.alloc (by omega) (.cells #[.slice aW13 rn.length cW13, .slice aP13 rd.length cP13] 30))
  have R13_13b := hideIt (R13_13.out.alloc (by omega) (.cells #[.slice aW13 rn.length cW13, .slice aP13 rd.length cP13] 30))
  have Vh_13b : Hid ((w13.alloc (.cells #[.slice aW13 rn.length cW13, .slice aP13 rd.length cP13] 30)).heap[w13.heap.size]? = some (.cells #[.slice aW13 rn.length cW13, .slice aP13 rd.length cP13] 30 (0, 0))) := at_new rfl
  have M5_13b := hideIt (M5_13.out.alloc (by omega) (.cells #[.slice aW13 rn.length cW13, .slice aP13 rd.length cP13] 30))
  obtain ⟨lh0, lh1, lh2, lh3⟩ := two_cells Vh_13b.out
  obtain ⟨ls0, ls1, ls2, ls3⟩ := two_cells Vs_13b.out
  go_wp2_with fail
  refine (eqImage_same _ _ rn rd _ R13_13b.out.rd R3_13b.out.rd (by omega) (by omega)).mono ?_
  rintro e w14 ⟨rfl, hb14⟩
  have hz14 : w13.heap.size + 1 ≤ w14.heap.size := by have := hb14.size; first | omega | (simp only [World.size_alloc] at this; omega)
  have B_14 := hideIt (below_trans B_13b.out hb14 (by first | omega | (simp only [World.size_alloc]; omega)))
  have Va_14 := hideIt ((hb14.block _ (by first | omega | (simp only [World.size_alloc]; omega))).trans Va_13b.out)
  have Vs_14 := hideIt ((hb14.block _ (by first | omega | (simp only [World.size_alloc]; omega))).trans Vs_13b.out)
  have Vx_14 := hideIt ((hb14.block _ (by first | omega | (simp only [World.size_alloc]; omega))).trans Vx_13b.out)
  have Vg_14 := hideIt ((hb14.block _ (by first | omega | (simp only [World.size_alloc]; omega))).trans Vg_13b.out)
  have Vh_14 := hideIt ((hb14.block _ (by first | omega | (simp only [World.size_alloc]; omega))).trans Vh_13b.out)
  have R2_14 := hideIt (R2_13b.out.below hb14 (by first | omega | (simp only [World.size_alloc]; omega)))
  have R3_14 := hideIt (R3_13b.out.below hb14 (by first | omega | (simp only [World.size_alloc]; omega)))
  have R12_14 := hideIt (R12_13b.out.below hb14 (by first | omega | (simp only [World.size_alloc]; omega)))
  have R13_14 := hideIt (R13_13b.out.below hb14 (by first | omega | (simp only [World.size_alloc]; omega)))
  have M5_14 := hideIt (M5_13b.out.below hb14 (by first | omega | (simp only [World.size_alloc]; omega)))
  clear lh0 lh1 lh2 lh3 ls0 ls1 ls2 ls3 hb14
  obtain ⟨lg0, lg1, lg2, lg3⟩ := two_cells Vg_14.out
  go_wp2_with fail
  refine (heldImage_mk _ rn.length rd.length 1 _ M5_14.out (by omega) (by omega) (by decide) (by decide)).mono ?_
  rintro e w15 ⟨rfl, hb15⟩
  have hz15 : w14.heap.size ≤ w15.heap.size := by have := hb15.size; first | omega | (simp only [World.size_alloc] at this; omega)
  have B_15 := hideIt (below_trans B_14.out hb15 (by first | omega | (simp only [World.size_alloc]; omega)))
  have Va_15 := hideIt ((hb15.block _ (by first | omega | (simp only [World.size_alloc]; omega))).trans Va_14.out)
  have Vs_15 := hideIt ((hb15.block _ (by first | omega | (simp only [World.size_alloc]; omega))).trans Vs_14.out)
  have Vx_15 := hideIt ((hb15.block _ (by first | omega | (simp only [World.size_alloc]; omega))).trans Vx_14.out)
  have Vg_15 := hideIt ((hb15.block _ (by first | omega | (simp only [World.size_alloc]; omega))).trans Vg_14.out)
  have Vh_15 := hideIt ((hb15.block _ (by first | omega | (simp only [World.size_alloc]; omega))).trans Vh_14.out)
  have R2_15 := hideIt (R2_14.out.below hb15 (by first | omega | (simp only [World.size_alloc]; omega)))
  have R3_15 := hideIt (R3_14.out.below hb15 (by first | omega | (simp only [World.size_alloc]; omega)))
  have R12_15 := hideIt (R12_14.out.below hb15 (by first | omega | (simp only [World.size_alloc]; omega)))
  have R13_15 := hideIt (R13_14.out.below hb15 (by first | omega | (simp only [World.size_alloc]; omega)))
  have M5_15 := hideIt (M5_14.out.below hb15 (by omega))
  clear lg0 lg1 lg2 lg3 hb15
  go_wp2
  go_ret
  exact ⟨rfl, B_15.out⟩
end Go.Proofs.YtpljkdbeekplbaaDoor

namespace Go.Proofs.YtpljkdbeekplbaaDoor
open Go.ChangeShapes Go.WideShapes Go.ChangeAt Go.RowKit Go.Joins

theorem cellsStore : Tryd.prog.cellsOf 119 = 3 := by kernel_rfl
theorem cellsPm : Tryd.prog.cellsOf 25 = 2 := by kernel_rfl

section

variable {H : Type} {enc : TypeId × Value → H} {W : World} {sp : Nat → Bool} {held : Bool} {fuel : Nat} {v : Value} {y : DataW H × List MemPlace}

set_option maxRecDepth 100000 in
theorem open_RdS (h : DataW.trod enc Tryd.prog W 0 sp held fuel 23 [v] = some y) : ∃ ps : List St, RdS W v ps ∧ ps.length ≤ maxLen ∧ ∀ p ∈ ps, (Lit.int .i64 p.at_).wf = true ∧ (Lit.int .i64 p.val).wf = true := by
  rcases Deep.open_slice Tryd.underlying23 h with ⟨hcs, _⟩ | ⟨a, len, cap, m, n, D, Pl, hcs, _, hl, hm, hmm, _, hel⟩
  · simp only [List.cons.injEq, and_true] at hcs
    subst hcs
    exact ⟨[], ⟨rfl, none, 0, rfl, ⟨Nat.le_refl _, fun _ => rfl⟩, fun h => absurd h (by simp)⟩, by simp, fun p hp => by simp at hp⟩
  · simp only [List.cons.injEq, and_true] at hcs
    subst hcs
    have hlm : len ≤ m := by rw [hmm]; split <;> omega
    have one : ∀ i, i < len → ∃ s : St, (W.cell? ((a.add (i * 3)).add 0) = some (.int .i64 s.at_) ∧ W.cell? ((a.add (i * 3)).add 1) = some (.int .i64 s.val) ∧ W.cell? ((a.add (i * 3)).add 2) = some (.bool s.fl)) ∧ (Lit.int .i64 s.at_).wf = true ∧ (Lit.int .i64 s.val).wf = true := by
      intro i hi
      obtain ⟨cs, hcs, ht⟩ := hel i (by omega)
      rw [cellsStore] at hcs
      obtain ⟨_, hlen, hc⟩ := World.cells?_some hcs
      obtain ⟨y0, y1, y2, n', _, _, t0, t1, t2⟩ := Deep.trod_struct3 Tryd.underlying119 ht
      obtain ⟨z0, e0, _, w0⟩ := DataW.trod_int Tryd.underlying3 t0
      obtain ⟨z1, e1, _, w1⟩ := DataW.trod_int Tryd.underlying3 t1
      obtain ⟨z2, e2, _⟩ := DataW.trod_bool Tryd.underlying4 t2
      simp only [cells3, cells4] at e0 e1 e2
      match cs, hlen with
      | [c0, c1, c2], _ =>
        simp at e0 e1 e2
        subst e0 e1 e2
        exact ⟨⟨z0, z1, z2⟩, ⟨by simpa using hc 0 (by omega), by simpa using hc 1 (by omega), by simpa using hc 2 (by omega)⟩, w0, w1⟩
    obtain ⟨ps, hpl, hps⟩ := exists_list len one
    refine ⟨ps, ⟨sts_len ps, some a, cap, by rw [hpl], ⟨by rw [hpl]; exact hl, fun e => by cases e⟩, fun hn => ?_⟩, by rw [hpl]; omega, fun p hp => ?_⟩
    · obtain ⟨b, off, spot⟩ := a
      have hc := (hps 0 hn).1.1
      have hspot : spot = none := by simpa [Addr.add] using World.cell?_spot hc
      subst hspot
      refine ⟨b, off, rfl, World.block_lt_of_cell? W _ (by simpa [Addr.add] using hc), fun j hj => ?_⟩
      have hk : j / 3 < ps.length := by omega
      obtain ⟨⟨q0, q1, q2⟩, _⟩ := hps (j / 3) hk
      simp only [Addr.add_lit, Nat.add_zero] at q0 q1 q2
      have hj3 : j = j / 3 * 3 + j % 3 := by omega
      rcases (show j % 3 = 0 ∨ j % 3 = 1 ∨ j % 3 = 2 from by omega) with r | r | r
      · rw [hj3, r, Nat.add_zero, q0, sts_at0 ps _ hk]
      · rw [hj3, r, ← Nat.add_assoc, q1, sts_at1 ps _ hk]
      · rw [hj3, r, ← Nat.add_assoc, q2, sts_at2 ps _ hk]
    · obtain ⟨i, hi, rfl⟩ := List.getElem_of_mem hp
      exact (hps i hi).2

end

end Go.Proofs.YtpljkdbeekplbaaDoor
