/- Several texts laid together: StoreT, Pm, PmT. -/
import Derived.Test.YtbjjdkemappelaaGreatDoorZAG
import Derived.Deep.RegionWith
namespace Go.Proofs.YtbjjdkemappelaaGreatDoor
open Go.RowKit
set_option maxHeartbeats 2000000 in
theorem eqStoreS_same (va vb : Value) (ps : List St) (w : World) (ha : RdS w va ps) (hb : RdS w vb ps) (hn : ps.length ≤ 2147483648) :
    Calls Tryz.prog 79 #[va, vb] w fun e w' => e = .returned (.bool true) ∧ Below w.heap.size w w' := by
  obtain ⟨ao, cap, rfl, hcap, hc⟩ := ha.shape
  obtain ⟨ao2, cap2, rfl, hcap2, hc2⟩ := hb.shape
  clear ha hb
  go_enter Tryz.func79, Tryz.ntmps79
  go_wp2
  go_loopw [5] (fun i wr => ∃ k : Nat, k ≤ ps.length ∧ i = .int .i64 k ∧ Below w.heap.size w wr) (fun i _ => ps.length - (intOf i).toNat)
  case atStart => exact ⟨0, by omega, rfl, Below.refl _ _⟩
  case round =>
    obtain ⟨k, hk, rfl, hbw⟩ := hrel
    by_cases hlt : k < ps.length
    · obtain ⟨b, o, rfl, hbl, hcell⟩ := hc (by omega)
      obtain ⟨b2, o2, rfl, hbl2, hcell2⟩ := hc2 (by omega)
      obtain ⟨c0, c1, c2⟩ := hcell k hlt
      obtain ⟨c3, c4, c5⟩ := hcell2 k hlt
      have d0 := (hbw.cell (p := ⟨b, o + k * 3, none⟩) hbl).trans c0
      have d1 := (hbw.cell (p := ⟨b, o + k * 3 + 1, none⟩) hbl).trans c1
      have d2 := (hbw.cell (p := ⟨b, o + k * 3 + 2, none⟩) hbl).trans c2
      have d3 := (hbw.cell (p := ⟨b2, o2 + k * 3, none⟩) hbl2).trans c3
      have d4 := (hbw.cell (p := ⟨b2, o2 + k * 3 + 1, none⟩) hbl2).trans c4
      have d5 := (hbw.cell (p := ⟨b2, o2 + k * 3 + 2, none⟩) hbl2).trans c5
      have hlt' : (k : Int) < (ps.length : Int) := by omega
      have hge : (0 : Int) ≤ (k : Int) := by omega
      have hz := hbw.size
      clear hcell hcell2 hc hc2 c0 c1 c2 c3 c4 c5
      go_wp2_with fail
      go_region_with (go_at_call 120; refine (eqStore_same _ _ _ _).mono ?_; rintro e w1 ⟨rfl, hb1⟩)
      all_goals
        go_wp2
        go_roundw
        case rel => exact ⟨k + 1, by omega, by go_num, hbw.trans (Below.mono (Below.trans ((Below.refl _ _).drew) ‹_›) hz)⟩
        case measure => simp [intOf]; omega
    · go_wp2
      go_ret
      exact ⟨rfl, hbw⟩
end Go.Proofs.YtbjjdkemappelaaGreatDoor

namespace Go.Proofs.YtbjjdkemappelaaGreatDoor
open Go.RowKit
def RdPm (w : World) (v : Value) (ws : List Int) (ps : List St) : Prop := ∃ vW vP, v = .agg #[vW, vP] ∧ RdI w vW ws ∧ RdS w vP ps
def RowPm (w : World) (lo hi : Nat) (v : Value) (ws : List Int) (ps : List St) : Prop := ∃ vW vP, v = .agg #[vW, vP] ∧ Row w 3 1 lo hi vW ws.length (ints ws) ∧ Row w 158 3 lo hi vP ps.length (sts ps)
theorem RowPm.rd {w : World} {lo hi : Nat} {v : Value} {ws : List Int} {ps : List St} (h : RowPm w lo hi v ws ps) : RdPm w v ws ps := by
  obtain ⟨vW, vP, rfl, h1, h2⟩ := h
  exact ⟨vW, vP, rfl, h1.rd, h2.rd⟩
theorem RdPm.below {w w' : World} {v : Value} {ws : List Int} {ps : List St} (h : RdPm w v ws ps) (hb : Below w.heap.size w w') : RdPm w' v ws ps := by
  obtain ⟨vW, vP, rfl, h1, h2⟩ := h
  exact ⟨vW, vP, rfl, Rd.below h1 hb, Rd.below h2 hb⟩
theorem RowPm.below {w w' : World} {lo hi : Nat} {v : Value} {ws : List Int} {ps : List St} (h : RowPm w lo hi v ws ps) {B : Nat} (hb : Below B w w') (hB : hi ≤ B) : RowPm w' lo hi v ws ps := by
  obtain ⟨vW, vP, rfl, h1, h2⟩ := h
  exact ⟨vW, vP, rfl, h1.below hb hB, h2.below hb hB⟩
theorem RowPm.outside {w w' : World} {lo hi : Nat} {v : Value} {ws : List Int} {ps : List St} (h : RowPm w lo hi v ws ps) {lo' hi' : Nat} (ho : Outside lo' hi' w w') (hd : hi ≤ lo' ∨ hi' ≤ lo) (hz : hi ≤ w.heap.size) : RowPm w' lo hi v ws ps := by
  obtain ⟨vW, vP, rfl, h1, h2⟩ := h
  exact ⟨vW, vP, rfl, h1.outside ho hd hz, h2.outside ho hd hz⟩
theorem RowPm.wide {w : World} {lo hi : Nat} {v : Value} {ws : List Int} {ps : List St} (h : RowPm w lo hi v ws ps) {lo' hi' : Nat} (h1 : lo' ≤ lo) (h2 : hi ≤ hi') : RowPm w lo' hi' v ws ps := by
  obtain ⟨vW, vP, rfl, a, b⟩ := h
  exact ⟨vW, vP, rfl, a.wide h1 h2, b.wide h1 h2⟩
set_option maxHeartbeats 2000000 in
theorem toPm_any (v : Value) (ws : List Int) (ps : List St) (w : World) (h : RdPm w v ws ps) (hw : ws.length ≤ 1048576) (hp : ps.length ≤ 1048576) :
    Calls Tryz.prog 38 #[v] w fun e w' => ∃ v', e = .returned v' ∧ RowPm w' w.heap.size w'.heap.size v' ws ps ∧ Below w.heap.size w w' := by
  obtain ⟨vW, vP, rfl, h1, h2⟩ := h
  have H1 := hideIt h1
  have H2 := hideIt h2
  obtain ⟨aW, cW, eW, _⟩ := h1.shape
  obtain ⟨aP, cP, eP, _⟩ := h2.shape
  clear h1 h2
  subst eW eP
  go_enter Tryz.func38, Tryz.ntmps38
  go_wp2_with fail
  have hb0 : Below w.heap.size w (((w.alloc (.cells #[.slice aW ws.length cW, .slice aP ps.length cP] 25)).alloc (.cells #[.slice none 0 0, .slice none 0 0] 36)).alloc (.cells #[.slice none 0 0, .slice none 0 0] 36)) := by
    repeat (refine Below.alloc ?_ (by simp <;> omega) _)
    exact Below.refl _ _
  refine (toIntS_any _ ws _ (Rd.below H1.out hb0) hw).mono ?_
  rintro e w1 ⟨v1, rfl, hr1, hb1⟩
  obtain ⟨_, a1, c1, rfl, _⟩ := hr1.rd
  have hz1 : w.heap.size + 3 ≤ w1.heap.size := by have := hb1.size; simp at this; omega
  have V0 := (hb1.block w.heap.size (by simp <;> omega)).trans (at_old (at_old (at_new rfl)))
  have V1 := (hb1.block (w.heap.size + 1) (by simp <;> omega)).trans (at_old (at_new (by simp)))
  have V2 := (hb1.block (w.heap.size + 1 + 1) (by simp <;> omega)).trans (at_new (by simp))
  have B1 := hideIt (hb0.trans (hb1.mono (by simp <;> omega)))
  have R1 := hideIt hr1
  obtain ⟨x1, x2, _, _⟩ := two_cells V0
  obtain ⟨y1, y2, y3, y4⟩ := two_cells V2
  have V2' := two_set0 V2 (.slice a1 ws.length c1)
  have V1' := (Below.heap_setCell w1 ⟨w.heap.size + 1 + 1, 0, none⟩ (.slice a1 ws.length c1) (w.heap.size + 1) (by simp)).trans V1
  have VH := hideIt (And.intro V1' V2')
  clear hb0 hb1 hr1 V0 V1 V2 V1' V2'
  go_wp2_with fail
  have hb2 := B1.out.setCell (p := ⟨w.heap.size + 1 + 1, 0, none⟩) (by simp; omega) (.slice a1 ws.length c1)
  refine (toStoreS_any _ ps _ (Rd.below H2.out hb2) hp).mono ?_
  rintro e w2 ⟨v2, rfl, hr2, hb3⟩
  obtain ⟨_, a2, c2, rfl, _⟩ := hr2.rd
  have hz2 : w1.heap.size ≤ w2.heap.size := by have := hb3.size; simpa using this
  have V1 := (hb3.block _ (by simp; omega)).trans VH.out.1
  have V2 := (hb3.block _ (by simp; omega)).trans VH.out.2
  have B2 := hideIt (hb2.trans (hb3.mono (by simp; omega)))
  have K2 := hideIt hb3
  have R2 := hideIt hr2
  clear hb2 hb3 hr2
  obtain ⟨z1, z2, z3, z4⟩ := two_cells V2
  obtain ⟨t1, t2, t3, t4⟩ := two_cells V1
  clear V1 V2
  go_wp2
  refine bodyPost_ret (v := .agg #[.slice a1 ws.length c1, .slice a2 ps.length c2]) (by simp [results, Tryz.results38, go_sem, t1, t2]) rfl ?_
  refine ⟨_, rfl, ⟨_, _, rfl, (R1.out.same fun b h1 h2 => ?_).wide (by simp; omega) (by simp; omega), (R2.out.same fun b h1 h2 => ?_).wide (by simp; omega) (by simp)⟩, ?_⟩
  · simp only [World.size_alloc] at h1
    rw [Below.heap_setCell _ _ _ _ (by simp only; omega), Below.heap_setCell _ _ _ _ (by simp only; omega), Below.heap_setCell _ _ _ _ (by simp only; omega), K2.out.block b (by simp; omega), Below.heap_setCell _ _ _ _ (by simp only; omega)]
  · simp at h1
    rw [Below.heap_setCell _ _ _ _ (by simp only; omega), Below.heap_setCell _ _ _ _ (by simp only; omega), Below.heap_setCell _ _ _ _ (by simp only; omega)]
  · exact ((B2.out.setCell (by simp only; omega) _).setCell (by simp only; omega) _).setCell (by simp only; omega) _
end Go.Proofs.YtbjjdkemappelaaGreatDoor

namespace Go.Proofs.YtbjjdkemappelaaGreatDoor
open Go.RowKit
set_option maxHeartbeats 2000000 in
theorem eqPm_same (va vb : Value) (ws : List Int) (ps : List St) (w : World) (ha : RdPm w va ws ps) (hb : RdPm w vb ws ps) (hw : ws.length ≤ 2147483648) (hp : ps.length ≤ 2147483648) :
    Calls Tryz.prog 43 #[va, vb] w fun e w' => e = .returned (.bool true) ∧ Below w.heap.size w w' := by
  obtain ⟨vW, vP, rfl, h1, h2⟩ := ha
  obtain ⟨uW, uP, rfl, h3, h4⟩ := hb
  obtain ⟨aW, cW, rfl, _⟩ := h1.shape
  obtain ⟨aP, cP, rfl, _⟩ := h2.shape
  obtain ⟨bW, dW, rfl, _⟩ := h3.shape
  obtain ⟨bP, dP, rfl, _⟩ := h4.shape
  have H1 := hideIt h1
  have H2 := hideIt h2
  have H3 := hideIt h3
  have H4 := hideIt h4
  clear h1 h2 h3 h4
  go_enter Tryz.func43, Tryz.ntmps43
  go_wp2_with fail
  have hb0 : Below w.heap.size w ((w.alloc (.cells #[.slice aW ws.length cW, .slice aP ps.length cP] 36)).alloc (.cells #[.slice bW ws.length dW, .slice bP ps.length dP] 36)) := by
    repeat (refine Below.alloc ?_ (by simp <;> omega) _)
    exact Below.refl _ _
  refine (eqIntS_same _ _ ws _ (Rd.below H1.out hb0) (Rd.below H3.out hb0) hw).mono ?_
  rintro e w1 ⟨rfl, hb1⟩
  have hz1 : w.heap.size + 2 ≤ w1.heap.size := by have := hb1.size; simp at this; omega
  have V0 := (hb1.block w.heap.size (by simp <;> omega)).trans (at_old (at_new rfl))
  have V1 := (hb1.block (w.heap.size + 1) (by simp <;> omega)).trans (at_new (by simp))
  have B1 := hb0.trans (hb1.mono (by simp <;> omega))
  obtain ⟨x1, x2, _, _⟩ := two_cells V0
  obtain ⟨y1, y2, _, _⟩ := two_cells V1
  clear hb0 hb1 V0 V1
  go_wp2_with fail
  refine (eqStoreS_same _ _ ps _ (Rd.below H2.out B1) (Rd.below H4.out B1) hp).mono ?_
  rintro e w2 ⟨rfl, hb2⟩
  go_wp2
  go_ret
  exact ⟨rfl, B1.trans (hb2.mono (by omega))⟩
set_option maxHeartbeats 2000000 in
theorem szPm_any (aW aP : Option Addr) (n m cW cP : Nat) (w : World) (hn : n ≤ maxLen) (hm : m ≤ maxLen) :
    Calls Tryz.prog 32 #[.agg #[.slice aW n cW, .slice aP m cP], .int .i64 1048576] w fun e w' => e = .returned (.int .i64 (if 1048576 < n + m then -1 else 1048576 - n - m)) ∧ Below w.heap.size w w' := by
  have hb0 : Below w.heap.size w (w.alloc (.cells #[.slice aW n cW, .slice aP m cP] 25)) := (Below.refl _ _).alloc (Nat.le_refl _) _
  by_cases c1 : (1048576 : Int) < (n : Int)
  · have e1 : less 1048576 n = -1 := by unfold less; rw [if_pos c1]
    have e2 : (if 1048576 < n + m then -1 else 1048576 - n - m : Int) = -1 := by rw [if_pos (by omega)]
    rw [e2]
    have E1 := hideIt e1
    clear e1 e2
    go_enter Tryz.func32, Tryz.ntmps32
    go_wp2_with (go_at_call 59; refine (szIntS_any aW n cW _ _ hn (by omega) (by omega)).mono ?_; rw [E1.out]; rintro e w' ⟨rfl, rfl⟩)
    go_ret
    exact ⟨rfl, hb0⟩
  · have e1 : less 1048576 n = 1048576 - n := by unfold less; rw [if_neg c1]
    have E1 := hideIt e1
    clear e1
    by_cases c2 : (1048576 - n : Int) < (m : Int)
    · have e2 : less (1048576 - n) m = -1 := by unfold less; rw [if_pos c2]
      have e3 : (if 1048576 < n + m then -1 else 1048576 - n - m : Int) = -1 := by rw [if_pos (by omega)]
      rw [e3]
      have E2 := hideIt e2
      clear e2 e3
      go_enter Tryz.func32, Tryz.ntmps32
      go_wp2_with (first | (go_at_call 59; refine (szIntS_any aW n cW _ _ hn (by omega) (by omega)).mono ?_; rw [E1.out]; rintro e w' ⟨rfl, rfl⟩) | (go_at_call 67; refine (szStoreS_any aP m cP _ _ hm (by omega) (by omega)).mono ?_; rw [E2.out]; rintro e w' ⟨rfl, rfl⟩))
      go_ret
      exact ⟨rfl, hb0⟩
    · have e2 : less (1048576 - n) m = 1048576 - n - m := by unfold less; rw [if_neg c2]
      have e3 : (if 1048576 < n + m then -1 else 1048576 - n - m : Int) = 1048576 - n - m := by rw [if_neg (by omega)]
      rw [e3]
      have E2 := hideIt e2
      clear e2 e3
      go_enter Tryz.func32, Tryz.ntmps32
      go_wp2_with (first | (go_at_call 59; refine (szIntS_any aW n cW _ _ hn (by omega) (by omega)).mono ?_; rw [E1.out]; rintro e w' ⟨rfl, rfl⟩) | (go_at_call 67; refine (szStoreS_any aP m cP _ _ hm (by omega) (by omega)).mono ?_; rw [E2.out]; rintro e w' ⟨rfl, rfl⟩))
      go_ret
      exact ⟨rfl, hb0⟩
end Go.Proofs.YtbjjdkemappelaaGreatDoor
