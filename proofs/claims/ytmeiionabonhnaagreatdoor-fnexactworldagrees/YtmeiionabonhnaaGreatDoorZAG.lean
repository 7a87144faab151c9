/- Several texts laid together: AoB, StoreT, Pm, PmT, Blk, BlkT, PmOK. -/
import Derived.Test.YtmeiionabonhnaaGreatDoorZAF
import Derived.Deep.RegionWith
import Derived.Test.YtmeiionabonhnaaGreatDoorZAB
import Derived.Test.YtmeiionabonhnaaGreatDoorZAD
import Derived.Test.YtmeiionabonhnaaGreatDoorZAE
namespace Go.Proofs.YtmeiionabonhnaaGreatDoor
open Go.RowKit
set_option maxHeartbeats 4000000 in
theorem eqAnswerU_same (va vb : Value) (us vs : List (Aw × Value)) (w : World) (ha : RdAu w va us) (hb : RdAu w vb vs) (he : us.map Prod.fst = vs.map Prod.fst) (hn : us.length ≤ 2147483648) (hp : ∀ k (h : k < us.length), us[k].1.names.length ≤ 2147483648) :
    Calls Tryz.prog 57 #[va, vb] w fun e w' => e = .returned (.bool true) ∧ Below w.heap.size w w' := by
  have HA := hideIt ha
  have HB := hideIt hb
  have el : us.length = vs.length := by have := congrArg List.length he; simpa using this
  have EL := hideIt el
  have EA : Hid (∀ k (h : k < us.length), us[k].1 = (vs[k]'(Nat.lt_of_lt_of_eq h EL.out)).1) := fun k h => by
    have := congrArg (fun l => l[k]?) he
    simpa [h, show k < vs.length by omega] using this
  obtain ⟨ao, cap, rfl, hcap, hc⟩ := ha.shape
  obtain ⟨ao2, cap2, rfl, hcap2, hc2⟩ := hb.shape
  rw [← el]
  have HP := hideIt hp
  clear ha hb he hp el
  go_enter Tryz.func57, Tryz.ntmps57
  go_wp2
  go_loopw [5] (fun i wr => ∃ k : Nat, k ≤ us.length ∧ i = .int .i64 k ∧ Below w.heap.size w wr) (fun i _ => us.length - (intOf i).toNat)
  case atStart => exact ⟨0, by omega, rfl, Below.refl _ _⟩
  case round =>
    obtain ⟨k, hk, rfl, hbw⟩ := hrel
    by_cases hlt : k < us.length
    · obtain ⟨b, o, rfl, hbl, hcell⟩ := hc (by omega)
      obtain ⟨b2, o2, rfl, hbl2, hcell2⟩ := hc2 (by have := EL.out; omega)
      obtain ⟨c0, c1, c2⟩ := hcell k hlt
      obtain ⟨c3, c4, c5⟩ := hcell2 k (Nat.lt_of_lt_of_eq hlt EL.out)
      rw [← EA.out k hlt] at c3 c4
      have d0 := (hbw.cell (p := ⟨b, o + k * 3, none⟩) hbl).trans c0
      have d1 := (hbw.cell (p := ⟨b, o + k * 3 + 1, none⟩) hbl).trans c1
      have d2 := (hbw.cell (p := ⟨b, o + k * 3 + 2, none⟩) hbl).trans c2
      have d3 := (hbw.cell (p := ⟨b2, o2 + k * 3, none⟩) hbl2).trans c3
      have d4 := (hbw.cell (p := ⟨b2, o2 + k * 3 + 1, none⟩) hbl2).trans c4
      have d5 := (hbw.cell (p := ⟨b2, o2 + k * 3 + 2, none⟩) hbl2).trans c5
      have hlt' : (k : Int) < (us.length : Int) := by omega
      have hge : (0 : Int) ≤ (k : Int) := by omega
      have hz := hbw.size
      have BW := hideIt hbw
      have R1 : Hid (RdT w us[k].2 us[k].1.names) := HA.out.2 k hlt
      have R2 : Hid (RdT w (vs[k]'(Nat.lt_of_lt_of_eq hlt EL.out)).2 us[k].1.names) := by
        have := HB.out.2 k (Nat.lt_of_lt_of_eq hlt EL.out)
        rw [← EA.out k hlt] at this
        exact this
      have hpk := HP.out k hlt
      obtain ⟨x1, y1, e1, -⟩ := R1.out.shape
      obtain ⟨x2, y2, e2, -⟩ := R2.out.shape
      rw [e1] at d2 R1
      rw [e2] at d5 R2
      clear hcell hcell2 hc hc2 c0 c1 c2 c3 c4 c5 hbw e1 e2 EA HA HB HP
      generalize us[k].1.names = zs at *
      generalize us[k].1.code = q1 at *
      generalize us[k].1.val = q2 at *
      go_wp2_with fail
      go_region_with (go_at_call 105; refine (eqAnswer_same _ _ _ _ zs _ (Rd.below R1.out (by first | exact BW.out | exact BW.out.drew)) (Rd.below R2.out (by first | exact BW.out | exact BW.out.drew)) hpk).mono ?_; rintro e w1 ⟨rfl, hb1⟩)
      all_goals
        go_wp2
        go_roundw
        case rel => exact ⟨k + 1, by omega, by go_num, BW.out.trans (Below.mono (Below.trans ((Below.refl _ _).drew) ‹_›) hz)⟩
        case measure => simp [intOf]; omega
    · go_wp2
      go_ret
      exact ⟨rfl, hbw⟩
theorem eqAnswerS_same (va vb : Value) (ts : List Aw) (w : World) (ha : RdAs w va ts) (hb : RdAs w vb ts) (hn : ts.length ≤ 2147483648) (hp : ∀ k (h : k < ts.length), ts[k].names.length ≤ 2147483648) :
    Calls Tryz.prog 57 #[va, vb] w fun e w' => e = .returned (.bool true) ∧ Below w.heap.size w w' := by
  obtain ⟨us, eu, ru⟩ := ha
  obtain ⟨vs, ev, rv⟩ := hb
  refine eqAnswerU_same va vb us vs w ru rv (by rw [eu, ev]) (by rw [aw_fst_len eu]; exact hn) (fun k h => ?_)
  rw [aw_fst_at eu k h]
  exact hp k _
end Go.Proofs.YtmeiionabonhnaaGreatDoor

namespace Go.Proofs.YtmeiionabonhnaaGreatDoor
open Go.RowKit
set_option maxHeartbeats 2000000 in
theorem eqStoreS_same (va vb : Value) (ps : List St) (w : World) (ha : RdS w va ps) (hb : RdS w vb ps) (hn : ps.length ≤ 2147483648) :
    Calls Tryz.prog 215 #[va, vb] w fun e w' => e = .returned (.bool true) ∧ Below w.heap.size w w' := by
  obtain ⟨ao, cap, rfl, hcap, hc⟩ := ha.shape
  obtain ⟨ao2, cap2, rfl, hcap2, hc2⟩ := hb.shape
  clear ha hb
  go_enter Tryz.func215, Tryz.ntmps215
  go_wp2
  go_loopw [5] (fun i wr => ∃ k : Nat, k ≤ ps.length ∧ i = .int .i64 k ∧ Below w.heap.size w wr) (fun i _ => ps.length - (intOf i).toNat)
  case atStart => exact ⟨0, by omega, rfl, Below.refl _ _⟩
  case round =>
    obtain ⟨k, hk, rfl, hbw⟩ := hrel
    by_cases hlt : k < ps.length
    · obtain ⟨b, o, rfl, hbl, hcell⟩ := hc (by omega)
      obtain ⟨b2, o2, rfl, hbl2, hcell2⟩ := hc2 (by omega)
      obtain ⟨c0, c1, c2⟩ := hcell k hlt
      obtain ⟨c3, c4, c5⟩ := hcell2 k hlt
      have d0 := (hbw.cell (p := ⟨b, o + k * 3, none⟩) hbl).trans c0
      have d1 := (hbw.cell (p := ⟨b, o + k * 3 + 1, none⟩) hbl).trans c1
      have d2 := (hbw.cell (p := ⟨b, o + k * 3 + 2, none⟩) hbl).trans c2
      have d3 := (hbw.cell (p := ⟨b2, o2 + k * 3, none⟩) hbl2).trans c3
      have d4 := (hbw.cell (p := ⟨b2, o2 + k * 3 + 1, none⟩) hbl2).trans c4
      have d5 := (hbw.cell (p := ⟨b2, o2 + k * 3 + 2, none⟩) hbl2).trans c5
      have hlt' : (k : Int) < (ps.length : Int) := by omega
      have hge : (0 : Int) ≤ (k : Int) := by omega
      have hz := hbw.size
      clear hcell hcell2 hc hc2 c0 c1 c2 c3 c4 c5
      go_wp2_with fail
      go_region_with (go_at_call 254; refine (eqStore_same _ _ _ _).mono ?_; rintro e w1 ⟨rfl, hb1⟩)
      all_goals
        go_wp2
        go_roundw
        case rel => exact ⟨k + 1, by omega, by go_num, hbw.trans (Below.mono (Below.trans ((Below.refl _ _).drew) ‹_›) hz)⟩
        case measure => simp [intOf]; omega
    · go_wp2
      go_ret
      exact ⟨rfl, hbw⟩
end Go.Proofs.YtmeiionabonhnaaGreatDoor

namespace Go.Proofs.YtmeiionabonhnaaGreatDoor
open Go.RowKit
def RdPm (w : World) (v : Value) (ws : List Int) (ps : List St) : Prop := ∃ vW vP, v = .agg #[vW, vP] ∧ RdI w vW ws ∧ RdS w vP ps
def RowPm (w : World) (lo hi : Nat) (v : Value) (ws : List Int) (ps : List St) : Prop := ∃ vW vP, v = .agg #[vW, vP] ∧ Row w 3 1 lo hi vW ws.length (ints ws) ∧ Row w 211 3 lo hi vP ps.length (sts ps)
theorem RowPm.rd {w : World} {lo hi : Nat} {v : Value} {ws : List Int} {ps : List St} (h : RowPm w lo hi v ws ps) : RdPm w v ws ps := by
  obtain ⟨vW, vP, rfl, h1, h2⟩ := h
  exact ⟨vW, vP, rfl, h1.rd, h2.rd⟩
theorem RdPm.below {w w' : World} {v : Value} {ws : List Int} {ps : List St} (h : RdPm w v ws ps) (hb : Below w.heap.size w w') : RdPm w' v ws ps := by
  obtain ⟨vW, vP, rfl, h1, h2⟩ := h
  exact ⟨vW, vP, rfl, Rd.below h1 hb, Rd.below h2 hb⟩
theorem RowPm.below {w w' : World} {lo hi : Nat} {v : Value} {ws : List Int} {ps : List St} (h : RowPm w lo hi v ws ps) {B : Nat} (hb : Below B w w') (hB : hi ≤ B) : RowPm w' lo hi v ws ps := by
  obtain ⟨vW, vP, rfl, h1, h2⟩ := h
  exact ⟨vW, vP, rfl, h1.below hb hB, h2.below hb hB⟩
theorem RowPm.outside {w w' : World} {lo hi : Nat} {v : Value} {ws : List Int} {ps : List St} (h : RowPm w lo hi v ws ps) {lo' hi' : Nat} (ho : Outside lo' hi' w w') (hd : hi ≤ lo' ∨ hi' ≤ lo) (hz : hi ≤ w.heap.size) : RowPm w' lo hi v ws ps := by
  obtain ⟨vW, vP, rfl, h1, h2⟩ := h
  exact ⟨vW, vP, rfl, h1.outside ho hd hz, h2.outside ho hd hz⟩
theorem RowPm.wide {w : World} {lo hi : Nat} {v : Value} {ws : List Int} {ps : List St} (h : RowPm w lo hi v ws ps) {lo' hi' : Nat} (h1 : lo' ≤ lo) (h2 : hi ≤ hi') : RowPm w lo' hi' v ws ps := by
  obtain ⟨vW, vP, rfl, a, b⟩ := h
  exact ⟨vW, vP, rfl, a.wide h1 h2, b.wide h1 h2⟩
set_option maxHeartbeats 2000000 in
theorem toPm_any (v : Value) (ws : List Int) (ps : List St) (w : World) (h : RdPm w v ws ps) (hw : ws.length ≤ 1048576) (hp : ps.length ≤ 1048576) :
    Calls Tryz.prog 148 #[v] w fun e w' => ∃ v', e = .returned v' ∧ RowPm w' w.heap.size w'.heap.size v' ws ps ∧ Below w.heap.size w w' := by
  obtain ⟨vW, vP, rfl, h1, h2⟩ := h
  have H1 := hideIt h1
  have H2 := hideIt h2
  obtain ⟨aW, cW, eW, _⟩ := h1.shape
  obtain ⟨aP, cP, eP, _⟩ := h2.shape
  clear h1 h2
  subst eW eP
  go_enter Tryz.func148, Tryz.ntmps148
  go_wp2_with fail
  have hb0 : Below w.heap.size w (((w.alloc (.cells #[.slice aW ws.length cW, .slice aP ps.length cP] 46)).alloc (.cells #[.slice none 0 0, .slice none 0 0] 66)).alloc (.cells #[.slice none 0 0, .slice none 0 0] 66)) := by
    repeat (refine Below.alloc ?_ (by simp <;> omega) _)
    exact Below.refl _ _
  refine (toIntS_any _ ws _ (Rd.below H1.out hb0) hw).mono ?_
  rintro e w1 ⟨v1, rfl, hr1, hb1⟩
  obtain ⟨_, a1, c1, rfl, _⟩ := hr1.rd
  have hz1 : w.heap.size + 3 ≤ w1.heap.size := by have := hb1.size; simp at this; omega
  have V0 := (hb1.block w.heap.size (by simp <;> omega)).trans (at_old (at_old (at_new rfl)))
  have V1 := (hb1.block (w.heap.size + 1) (by simp <;> omega)).trans (at_old (at_new (by simp)))
  have V2 := (hb1.block (w.heap.size + 1 + 1) (by simp <;> omega)).trans (at_new (by simp))
  have B1 := hideIt (hb0.trans (hb1.mono (by simp <;> omega)))
  have R1 := hideIt hr1
  obtain ⟨x1, x2, _, _⟩ := two_cells V0
  obtain ⟨y1, y2, y3, y4⟩ := two_cells V2
  have V2' := two_set0 V2 (.slice a1 ws.length c1)
  have V1' := (Below.heap_setCell w1 ⟨w.heap.size + 1 + 1, 0, none⟩ (.slice a1 ws.length c1) (w.heap.size + 1) (by simp)).trans V1
  have VH := hideIt (And.intro V1' V2')
  clear hb0 hb1 hr1 V0 V1 V2 V1' V2'
  go_wp2_with fail
  have hb2 := B1.out.setCell (p := ⟨w.heap.size + 1 + 1, 0, none⟩) (by simp; omega) (.slice a1 ws.length c1)
  refine (toStoreS_any _ ps _ (Rd.below H2.out hb2) hp).mono ?_
  rintro e w2 ⟨v2, rfl, hr2, hb3⟩
  obtain ⟨_, a2, c2, rfl, _⟩ := hr2.rd
  have hz2 : w1.heap.size ≤ w2.heap.size := by have := hb3.size; simpa using this
  have V1 := (hb3.block _ (by simp; omega)).trans VH.out.1
  have V2 := (hb3.block _ (by simp; omega)).trans VH.out.2
  have B2 := hideIt (hb2.trans (hb3.mono (by simp; omega)))
  have K2 := hideIt hb3
  have R2 := hideIt hr2
  clear hb2 hb3 hr2
  obtain ⟨z1, z2, z3, z4⟩ := two_cells V2
  obtain ⟨t1, t2, t3, t4⟩ := two_cells V1
  clear V1 V2
  go_wp2
  refine bodyPost_ret (v := .agg #[.slice a1 ws.length c1, .slice a2 ps.length c2]) (by simp [results, Tryz.results148, go_sem, t1, t2]) rfl ?_
  refine ⟨_, rfl, ⟨_, _, rfl, (R1.out.same fun b h1 h2 => ?_).wide (by simp; omega) (by simp; omega), (R2.out.same fun b h1 h2 => ?_).wide (by simp; omega) (by simp)⟩, ?_⟩
  · simp only [World.size_alloc] at h1
    rw [Below.heap_setCell _ _ _ _ (by simp only; omega), Below.heap_setCell _ _ _ _ (by simp only; omega), Below.heap_setCell _ _ _ _ (by simp only; omega), K2.out.block b (by simp; omega), Below.heap_setCell _ _ _ _ (by simp only; omega)]
  · simp at h1
    rw [Below.heap_setCell _ _ _ _ (by simp only; omega), Below.heap_setCell _ _ _ _ (by simp only; omega), Below.heap_setCell _ _ _ _ (by simp only; omega)]
  · exact ((B2.out.setCell (by simp only; omega) _).setCell (by simp only; omega) _).setCell (by simp only; omega) _
end Go.Proofs.YtmeiionabonhnaaGreatDoor

namespace Go.Proofs.YtmeiionabonhnaaGreatDoor
open Go.RowKit
set_option maxHeartbeats 2000000 in
theorem eqPm_same (va vb : Value) (ws : List Int) (ps : List St) (w : World) (ha : RdPm w va ws ps) (hb : RdPm w vb ws ps) (hw : ws.length ≤ 2147483648) (hp : ps.length ≤ 2147483648) :
    Calls Tryz.prog 158 #[va, vb] w fun e w' => e = .returned (.bool true) ∧ Below w.heap.size w w' := by
  obtain ⟨vW, vP, rfl, h1, h2⟩ := ha
  obtain ⟨uW, uP, rfl, h3, h4⟩ := hb
  obtain ⟨aW, cW, rfl, _⟩ := h1.shape
  obtain ⟨aP, cP, rfl, _⟩ := h2.shape
  obtain ⟨bW, dW, rfl, _⟩ := h3.shape
  obtain ⟨bP, dP, rfl, _⟩ := h4.shape
  have H1 := hideIt h1
  have H2 := hideIt h2
  have H3 := hideIt h3
  have H4 := hideIt h4
  clear h1 h2 h3 h4
  go_enter Tryz.func158, Tryz.ntmps158
  go_wp2_with fail
  have hb0 : Below w.heap.size w ((w.alloc (.cells #[.slice aW ws.length cW, .slice aP ps.length cP] 66)).alloc (.cells #[.slice bW ws.length dW, .slice bP ps.length dP] 66)) := by
    repeat (refine Below.alloc ?_ (by simp <;> omega) _)
    exact Below.refl _ _
  refine (eqIntS_same _ _ ws _ (Rd.below H1.out hb0) (Rd.below H3.out hb0) hw).mono ?_
  rintro e w1 ⟨rfl, hb1⟩
  have hz1 : w.heap.size + 2 ≤ w1.heap.size := by have := hb1.size; simp at this; omega
  have V0 := (hb1.block w.heap.size (by simp <;> omega)).trans (at_old (at_new rfl))
  have V1 := (hb1.block (w.heap.size + 1) (by simp <;> omega)).trans (at_new (by simp))
  have B1 := hb0.trans (hb1.mono (by simp <;> omega))
  obtain ⟨x1, x2, _, _⟩ := two_cells V0
  obtain ⟨y1, y2, _, _⟩ := two_cells V1
  clear hb0 hb1 V0 V1
  go_wp2_with fail
  refine (eqStoreS_same _ _ ps _ (Rd.below H2.out B1) (Rd.below H4.out B1) hp).mono ?_
  rintro e w2 ⟨rfl, hb2⟩
  go_wp2
  go_ret
  exact ⟨rfl, B1.trans (hb2.mono (by omega))⟩
set_option maxHeartbeats 2000000 in
theorem szPm_any (aW aP : Option Addr) (n m cW cP : Nat) (w : World) (hn : n ≤ maxLen) (hm : m ≤ maxLen) :
    Calls Tryz.prog 138 #[.agg #[.slice aW n cW, .slice aP m cP], .int .i64 1048576] w fun e w' => e = .returned (.int .i64 (if 1048576 < n + m then -1 else 1048576 - n - m)) ∧ Below w.heap.size w w' := by
  have hb0 : Below w.heap.size w (w.alloc (.cells #[.slice aW n cW, .slice aP m cP] 46)) := (Below.refl _ _).alloc (Nat.le_refl _) _
  by_cases c1 : (1048576 : Int) < (n : Int)
  · have e1 : less 1048576 n = -1 := by unfold less; rw [if_pos c1]
    have e2 : (if 1048576 < n + m then -1 else 1048576 - n - m : Int) = -1 := by rw [if_pos (by omega)]
    rw [e2]
    have E1 := hideIt e1
    clear e1 e2
    go_enter Tryz.func138, Tryz.ntmps138
    go_wp2_with (go_at_call 86; refine (szIntS_any aW n cW _ _ hn (by omega) (by omega)).mono ?_; rw [E1.out]; rintro e w' ⟨rfl, rfl⟩)
    go_ret
    exact ⟨rfl, hb0⟩
  · have e1 : less 1048576 n = 1048576 - n := by unfold less; rw [if_neg c1]
    have E1 := hideIt e1
    clear e1
    by_cases c2 : (1048576 - n : Int) < (m : Int)
    · have e2 : less (1048576 - n) m = -1 := by unfold less; rw [if_pos c2]
      have e3 : (if 1048576 < n + m then -1 else 1048576 - n - m : Int) = -1 := by rw [if_pos (by omega)]
      rw [e3]
      have E2 := hideIt e2
      clear e2 e3
      go_enter Tryz.func138, Tryz.ntmps138
      go_wp2_with (first | (go_at_call 86; refine (szIntS_any aW n cW _ _ hn (by omega) (by omega)).mono ?_; rw [E1.out]; rintro e w' ⟨rfl, rfl⟩) | (go_at_call 201; refine (szStoreS_any aP m cP _ _ hm (by omega) (by omega)).mono ?_; rw [E2.out]; rintro e w' ⟨rfl, rfl⟩))
      go_ret
      exact ⟨rfl, hb0⟩
    · have e2 : less (1048576 - n) m = 1048576 - n - m := by unfold less; rw [if_neg c2]
      have e3 : (if 1048576 < n + m then -1 else 1048576 - n - m : Int) = 1048576 - n - m := by rw [if_neg (by omega)]
      rw [e3]
      have E2 := hideIt e2
      clear e2 e3
      go_enter Tryz.func138, Tryz.ntmps138
      go_wp2_with (first | (go_at_call 86; refine (szIntS_any aW n cW _ _ hn (by omega) (by omega)).mono ?_; rw [E1.out]; rintro e w' ⟨rfl, rfl⟩) | (go_at_call 201; refine (szStoreS_any aP m cP _ _ hm (by omega) (by omega)).mono ?_; rw [E2.out]; rintro e w' ⟨rfl, rfl⟩))
      go_ret
      exact ⟨rfl, hb0⟩
end Go.Proofs.YtmeiionabonhnaaGreatDoor

namespace Go.Proofs.YtmeiionabonhnaaGreatDoor
open Go.RowKit
def RdBlk (w : World) (v : Value) (ws : List Int) (ps : List Se) : Prop := ∃ vW vP, v = .agg #[vW, vP] ∧ RdI w vW ws ∧ RdE w vP ps
def RowZ (w : World) (lo hi : Nat) (v : Value) (n : Nat) (xs : List Value) : Prop := ∃ e, e ≠ 276 ∧ Row w e 1 lo hi v n xs
theorem RowZ.rd {w : World} {lo hi : Nat} {v : Value} {n : Nat} {xs : List Value} (h : RowZ w lo hi v n xs) : Rd w 1 v n xs := by
  obtain ⟨_, _, h⟩ := h
  exact h.rd
theorem RowZ.below {w w' : World} {lo hi : Nat} {v : Value} {n : Nat} {xs : List Value} (h : RowZ w lo hi v n xs) {B : Nat} (hb : Below B w w') (hB : hi ≤ B) : RowZ w' lo hi v n xs := by
  obtain ⟨e, he, h⟩ := h
  exact ⟨e, he, h.below hb hB⟩
theorem RowZ.outside {w w' : World} {lo hi : Nat} {v : Value} {n : Nat} {xs : List Value} (h : RowZ w lo hi v n xs) {lo' hi' : Nat} (ho : Outside lo' hi' w w') (hd : hi ≤ lo' ∨ hi' ≤ lo) (hz : hi ≤ w.heap.size) : RowZ w' lo hi v n xs := by
  obtain ⟨e, he, h⟩ := h
  exact ⟨e, he, h.outside ho hd hz⟩
theorem RowZ.wide {w : World} {lo hi : Nat} {v : Value} {n : Nat} {xs : List Value} (h : RowZ w lo hi v n xs) {lo' hi' : Nat} (h1 : lo' ≤ lo) (h2 : hi ≤ hi') : RowZ w lo' hi' v n xs := by
  obtain ⟨e, he, h⟩ := h
  exact ⟨e, he, h.wide h1 h2⟩
theorem Row.z {w : World} {lo hi : Nat} {v : Value} {n : Nat} {xs : List Value} (h : Row w 3 1 lo hi v n xs) : RowZ w lo hi v n xs := ⟨3, by decide, h⟩
def RowBlk (w : World) (lo hi : Nat) (v : Value) (ws : List Int) (ps : List Se) : Prop := ∃ vW vP, v = .agg #[vW, vP] ∧ RowZ w lo hi vW ws.length (ints ws) ∧ Row w 276 2 lo hi vP ps.length (ses ps)
theorem RowBlk.rd {w : World} {lo hi : Nat} {v : Value} {ws : List Int} {ps : List Se} (h : RowBlk w lo hi v ws ps) : RdBlk w v ws ps := by
  obtain ⟨vW, vP, rfl, h1, h2⟩ := h
  exact ⟨vW, vP, rfl, h1.rd, h2.rd⟩
theorem RdBlk.below {w w' : World} {v : Value} {ws : List Int} {ps : List Se} (h : RdBlk w v ws ps) (hb : Below w.heap.size w w') : RdBlk w' v ws ps := by
  obtain ⟨vW, vP, rfl, h1, h2⟩ := h
  exact ⟨vW, vP, rfl, Rd.below h1 hb, Rd.below h2 hb⟩
theorem RowBlk.below {w w' : World} {lo hi : Nat} {v : Value} {ws : List Int} {ps : List Se} (h : RowBlk w lo hi v ws ps) {B : Nat} (hb : Below B w w') (hB : hi ≤ B) : RowBlk w' lo hi v ws ps := by
  obtain ⟨vW, vP, rfl, h1, h2⟩ := h
  exact ⟨vW, vP, rfl, h1.below hb hB, h2.below hb hB⟩
theorem RowBlk.outside {w w' : World} {lo hi : Nat} {v : Value} {ws : List Int} {ps : List Se} (h : RowBlk w lo hi v ws ps) {lo' hi' : Nat} (ho : Outside lo' hi' w w') (hd : hi ≤ lo' ∨ hi' ≤ lo) (hz : hi ≤ w.heap.size) : RowBlk w' lo hi v ws ps := by
  obtain ⟨vW, vP, rfl, h1, h2⟩ := h
  exact ⟨vW, vP, rfl, h1.outside ho hd hz, h2.outside ho hd hz⟩
theorem RowBlk.wide {w : World} {lo hi : Nat} {v : Value} {ws : List Int} {ps : List Se} (h : RowBlk w lo hi v ws ps) {lo' hi' : Nat} (h1 : lo' ≤ lo) (h2 : hi ≤ hi') : RowBlk w lo' hi' v ws ps := by
  obtain ⟨vW, vP, rfl, a, b⟩ := h
  exact ⟨vW, vP, rfl, a.wide h1 h2, b.wide h1 h2⟩
set_option maxHeartbeats 2000000 in
theorem toBlk_any (v : Value) (ws : List Int) (ps : List Se) (w : World) (h : RdBlk w v ws ps) (hw : ws.length ≤ 1048576) (hp : ps.length ≤ 1048576) :
    Calls Tryz.prog 149 #[v] w fun e w' => ∃ v', e = .returned v' ∧ RowBlk w' w.heap.size w'.heap.size v' ws ps ∧ Below w.heap.size w w' := by
  obtain ⟨vW, vP, rfl, h1, h2⟩ := h
  have H1 := hideIt h1
  have H2 := hideIt h2
  obtain ⟨aW, cW, eW, _⟩ := h1.shape
  obtain ⟨aP, cP, eP, _⟩ := h2.shape
  clear h1 h2
  subst eW eP
  go_enter Tryz.func149, Tryz.ntmps149
  go_wp2_with fail
  have hb0 : Below w.heap.size w (((w.alloc (.cells #[.slice aW ws.length cW, .slice aP ps.length cP] 49)).alloc (.cells #[.slice none 0 0, .slice none 0 0] 69)).alloc (.cells #[.slice none 0 0, .slice none 0 0] 69)) := by
    repeat (refine Below.alloc ?_ (by simp <;> omega) _)
    exact Below.refl _ _
  refine (toIntS_any _ ws _ (Rd.below H1.out hb0) hw).mono ?_
  rintro e w1 ⟨v1, rfl, hr1, hb1⟩
  obtain ⟨_, a1, c1, rfl, _⟩ := hr1.rd
  have hz1 : w.heap.size + 3 ≤ w1.heap.size := by have := hb1.size; simp at this; omega
  have V0 := (hb1.block w.heap.size (by simp <;> omega)).trans (at_old (at_old (at_new rfl)))
  have V1 := (hb1.block (w.heap.size + 1) (by simp <;> omega)).trans (at_old (at_new (by simp)))
  have V2 := (hb1.block (w.heap.size + 1 + 1) (by simp <;> omega)).trans (at_new (by simp))
  have B1 := hideIt (hb0.trans (hb1.mono (by simp <;> omega)))
  have R1 := hideIt hr1
  obtain ⟨x1, x2, _, _⟩ := two_cells V0
  obtain ⟨y1, y2, y3, y4⟩ := two_cells V2
  have V2' := two_set0 V2 (.slice a1 ws.length c1)
  have V1' := (Below.heap_setCell w1 ⟨w.heap.size + 1 + 1, 0, none⟩ (.slice a1 ws.length c1) (w.heap.size + 1) (by simp)).trans V1
  have VH := hideIt (And.intro V1' V2')
  clear hb0 hb1 hr1 V0 V1 V2 V1' V2'
  go_wp2_with fail
  have hb2 := B1.out.setCell (p := ⟨w.heap.size + 1 + 1, 0, none⟩) (by simp; omega) (.slice a1 ws.length c1)
  refine (toSectorS_any _ ps _ (Rd.below H2.out hb2) hp).mono ?_
  rintro e w2 ⟨v2, rfl, hr2, hb3⟩
  obtain ⟨_, a2, c2, rfl, _⟩ := hr2.rd
  have hz2 : w1.heap.size ≤ w2.heap.size := by have := hb3.size; simpa using this
  have V1 := (hb3.block _ (by simp; omega)).trans VH.out.1
  have V2 := (hb3.block _ (by simp; omega)).trans VH.out.2
  have B2 := hideIt (hb2.trans (hb3.mono (by simp; omega)))
  have K2 := hideIt hb3
  have R2 := hideIt hr2
  clear hb2 hb3 hr2
  obtain ⟨z1, z2, z3, z4⟩ := two_cells V2
  obtain ⟨t1, t2, t3, t4⟩ := two_cells V1
  clear V1 V2
  go_wp2
  refine bodyPost_ret (v := .agg #[.slice a1 ws.length c1, .slice a2 ps.length c2]) (by simp [results, Tryz.results149, go_sem, t1, t2]) rfl ?_
  refine ⟨_, rfl, ⟨_, _, rfl, ((R1.out.same fun b h1 h2 => ?_).wide (by simp; omega) (by simp; omega)).z, (R2.out.same fun b h1 h2 => ?_).wide (by simp; omega) (by simp)⟩, ?_⟩
  · simp only [World.size_alloc] at h1
    rw [Below.heap_setCell _ _ _ _ (by simp only; omega), Below.heap_setCell _ _ _ _ (by simp only; omega), Below.heap_setCell _ _ _ _ (by simp only; omega), K2.out.block b (by simp; omega), Below.heap_setCell _ _ _ _ (by simp only; omega)]
  · simp at h1
    rw [Below.heap_setCell _ _ _ _ (by simp only; omega), Below.heap_setCell _ _ _ _ (by simp only; omega), Below.heap_setCell _ _ _ _ (by simp only; omega)]
  · exact ((B2.out.setCell (by simp only; omega) _).setCell (by simp only; omega) _).setCell (by simp only; omega) _
end Go.Proofs.YtmeiionabonhnaaGreatDoor

namespace Go.Proofs.YtmeiionabonhnaaGreatDoor
open Go.RowKit
set_option maxHeartbeats 2000000 in
theorem eqBlk_same (va vb : Value) (ws : List Int) (ps : List Se) (w : World) (ha : RdBlk w va ws ps) (hb : RdBlk w vb ws ps) (hw : ws.length ≤ 2147483648) (hp : ps.length ≤ 2147483648) :
    Calls Tryz.prog 159 #[va, vb] w fun e w' => e = .returned (.bool true) ∧ Below w.heap.size w w' := by
  obtain ⟨vW, vP, rfl, h1, h2⟩ := ha
  obtain ⟨uW, uP, rfl, h3, h4⟩ := hb
  obtain ⟨aW, cW, rfl, _⟩ := h1.shape
  obtain ⟨aP, cP, rfl, _⟩ := h2.shape
  obtain ⟨bW, dW, rfl, _⟩ := h3.shape
  obtain ⟨bP, dP, rfl, _⟩ := h4.shape
  have H1 := hideIt h1
  have H2 := hideIt h2
  have H3 := hideIt h3
  have H4 := hideIt h4
  clear h1 h2 h3 h4
  go_enter Tryz.func159, Tryz.ntmps159
  go_wp2_with fail
  have hb0 : Below w.heap.size w ((w.alloc (.cells #[.slice aW ws.length cW, .slice aP ps.length cP] 69)).alloc (.cells #[.slice bW ws.length dW, .slice bP ps.length dP] 69)) := by
    repeat (refine Below.alloc ?_ (by simp <;> omega) _)
    exact Below.refl _ _
  refine (eqIntS_same _ _ ws _ (Rd.below H1.out hb0) (Rd.below H3.out hb0) hw).mono ?_
  rintro e w1 ⟨rfl, hb1⟩
  have hz1 : w.heap.size + 2 ≤ w1.heap.size := by have := hb1.size; simp at this; omega
  have V0 := (hb1.block w.heap.size (by simp <;> omega)).trans (at_old (at_new rfl))
  have V1 := (hb1.block (w.heap.size + 1) (by simp <;> omega)).trans (at_new (by simp))
  have B1 := hb0.trans (hb1.mono (by simp <;> omega))
  obtain ⟨x1, x2, _, _⟩ := two_cells V0
  obtain ⟨y1, y2, _, _⟩ := two_cells V1
  clear hb0 hb1 V0 V1
  go_wp2_with fail
  refine (eqSectorS_same _ _ ps _ (Rd.below H2.out B1) (Rd.below H4.out B1) hp).mono ?_
  rintro e w2 ⟨rfl, hb2⟩
  go_wp2
  go_ret
  exact ⟨rfl, B1.trans (hb2.mono (by omega))⟩
end Go.Proofs.YtmeiionabonhnaaGreatDoor

namespace Go.Proofs.YtmeiionabonhnaaGreatDoor
open Go.RowKit
def pmB (ws : List Int) (ps : List St) : Bool := decide (ws.length = 336 ∧ ps.length ≤ 400 ∧ (∀ k (h : k < ws.length), wordB ws[k] = true) ∧ ∀ k (h : k < ps.length), placeB ps[k].at_ = true ∧ wordB ps[k].val = true)
theorem pmB_mk {ws : List Int} {ps : List St} (h1 : ws.length = 336) (h2 : ps.length ≤ 400) (h3 : ∀ k (h : k < ws.length), wordB ws[k] = true) (h4 : ∀ k (h : k < ps.length), placeB ps[k].at_ = true ∧ wordB ps[k].val = true) : pmB ws ps = true := decide_eq_true ⟨h1, h2, h3, h4⟩
theorem pmB_len {ws : List Int} {ps : List St} (h : pmB ws ps = true) : ws.length = 336 ∧ ps.length ≤ 400 := ⟨(of_decide_eq_true h).1, (of_decide_eq_true h).2.1⟩
theorem pmB_word {ws : List Int} {ps : List St} (h : pmB ws ps = true) (k : Nat) (hk : k < ws.length) : wordB ws[k] = true := (of_decide_eq_true h).2.2.1 k hk
theorem pmB_store {ws : List Int} {ps : List St} (h : pmB ws ps = true) (k : Nat) (hk : k < ps.length) : placeB ps[k].at_ = true ∧ wordB ps[k].val = true := (of_decide_eq_true h).2.2.2 k hk
theorem pmB_len1 {ws : List Int} {ps : List St} (h : ¬ ws.length = 336) : pmB ws ps = false := decide_eq_false (fun x => h x.1)
theorem pmB_len2 {ws : List Int} {ps : List St} (h : 400 < ps.length) : pmB ws ps = false := decide_eq_false (fun x => absurd x.2.1 (by omega))
theorem pmB_w {ws : List Int} {ps : List St} {k : Nat} (hk : k < ws.length) (h : wordB ws[k] = false) : pmB ws ps = false := decide_eq_false (fun x => by have := x.2.2.1 k hk; rw [h] at this; cases this)
theorem pmB_a {ws : List Int} {ps : List St} {k : Nat} (hk : k < ps.length) (h : placeB ps[k].at_ = false) : pmB ws ps = false := decide_eq_false (fun x => by have := (x.2.2.2 k hk).1; rw [h] at this; cases this)
theorem pmB_v {ws : List Int} {ps : List St} {k : Nat} (hk : k < ps.length) (h : wordB ps[k].val = false) : pmB ws ps = false := decide_eq_false (fun x => by have := (x.2.2.2 k hk).2; rw [h] at this; cases this)
set_option maxHeartbeats 4000000 in
theorem specPmOK_any (v : Value) (ws : List Int) (ps : List St) (w : World) (h : RdPm w v ws ps) (hw : ws.length ≤ 1048576) (hp : ps.length ≤ 1048576) :
    Calls Tryz.prog 203 #[v] w fun e w' => e = .returned (.bool (pmB ws ps)) ∧ Below w.heap.size w w' := by
  obtain ⟨vW, vP, rfl, h1, h2⟩ := h
  obtain ⟨aW, cW, rfl, _, hcW⟩ := h1.shape
  obtain ⟨aP, cP, rfl, _, hcP⟩ := h2.shape
  clear h1 h2
  have hb0 : Below w.heap.size w (w.alloc (.cells #[.slice aW ws.length cW, .slice aP ps.length cP] 66)) := (Below.refl _ _).alloc (Nat.le_refl _) _
  by_cases c1 : ws.length = 336
  case neg =>
    have E := hideIt (pmB_len1 (ps := ps) c1)
    have c1' : ((ws.length : Int) != 336) = true := by simp; omega
    clear c1
    go_enter Tryz.func203, Tryz.ntmps203
    go_wp2
    go_ret
    exact ⟨ret_bool E.out.symm, hb0⟩
  have c1n : ((ws.length : Int) != 336) = false := by simp; omega
  have hpos : 0 < ws.length := by omega
  have C1 := hideIt c1
  clear c1
  by_cases c2 : 400 < ps.length
  · have E := hideIt (pmB_len2 (ws := ws) c2)
    go_enter Tryz.func203, Tryz.ntmps203
    go_wp2
    go_ret
    exact ⟨ret_bool E.out.symm, hb0⟩
  obtain ⟨b, o, rfl, hbl, hcell⟩ := hcW hpos
  clear hcW hpos
  go_enter Tryz.func203, Tryz.ntmps203
  go_wp2
  go_loop [3] (fun i => ∃ k : Nat, k ≤ ws.length ∧ i = .int .i64 k ∧ Hid (∀ j (h : j < ws.length), j < k → wordB ws[j] = true)) (fun i => ws.length - (intOf i).toNat)
  case atStart => exact ⟨0, by omega, rfl, fun j h a => absurd a (by omega)⟩
  case round =>
    obtain ⟨k, hk, rfl, H⟩ := hrel
    by_cases hlt : k < ws.length
    · have hck := (hb0.cell (p := ⟨b, o + k, none⟩) hbl).trans (hcell k hlt)
      clear hcell hcP
      by_cases q : wordB ws[k] = true
      · go_wp2_with (go_at_call 67; refine (l01Word_any _ _).mono ?_; rintro e w' ⟨rfl, rfl⟩)
        go_round
        case rel =>
          refine ⟨k + 1, by omega, by go_num, fun j h a => ?_⟩
          by_cases e : j = k
          · subst e; exact q
          · exact H.out j h (by omega)
        case measure => simp [intOf]; omega
      · have q' : wordB ws[k] = false := by simpa using q
        have E := hideIt (pmB_w (ps := ps) hlt q')
        go_wp2_with (go_at_call 67; refine (l01Word_any _ _).mono ?_; rintro e w' ⟨rfl, rfl⟩)
        go_ret
        exact ⟨ret_bool E.out.symm, hb0⟩
    · have HW := hideIt (fun j (h : j < ws.length) => H.out j h (by omega))
      clear H hcell
      go_wp2
      go_loop [4] (fun i => ∃ k : Nat, k ≤ ps.length ∧ i = .int .i64 k ∧ Hid (∀ j (h : j < ps.length), j < k → placeB ps[j].at_ = true ∧ wordB ps[j].val = true)) (fun i => ps.length - (intOf i).toNat)
      case atStart => exact ⟨0, by omega, rfl, fun j h a => absurd a (by omega)⟩
      case round =>
        obtain ⟨m, hm, rfl, H⟩ := hrel
        by_cases hlt2 : m < ps.length
        · obtain ⟨b2, o2, rfl, hbl2, hcell2⟩ := hcP (by omega)
          obtain ⟨d0, d1, _⟩ := hcell2 m hlt2
          have e0 := (hb0.cell (p := ⟨b2, o2 + m * 3, none⟩) hbl2).trans d0
          have e1 := (hb0.cell (p := ⟨b2, o2 + m * 3 + 1, none⟩) hbl2).trans d1
          clear d0 d1 hcell2 hcP
          by_cases q : placeB ps[m].at_ = true
          · by_cases q2 : wordB ps[m].val = true
            · go_wp2_with (first | (go_at_call 125; refine (l01InPlace_any _ _).mono ?_; rintro e w' ⟨rfl, rfl⟩) | (go_at_call 67; refine (l01Word_any _ _).mono ?_; rintro e w' ⟨rfl, rfl⟩))
              go_round
              case rel =>
                refine ⟨m + 1, by omega, by go_num, fun j h a => ?_⟩
                by_cases e : j = m
                · subst e; exact ⟨q, q2⟩
                · exact H.out j h (by omega)
              case measure => simp [intOf]; omega
            · have q2' : wordB ps[m].val = false := by simpa using q2
              have E := hideIt (pmB_v (ws := ws) hlt2 q2')
              go_wp2_with (first | (go_at_call 125; refine (l01InPlace_any _ _).mono ?_; rintro e w' ⟨rfl, rfl⟩) | (go_at_call 67; refine (l01Word_any _ _).mono ?_; rintro e w' ⟨rfl, rfl⟩))
              go_ret
              exact ⟨ret_bool E.out.symm, hb0⟩
          · have q' : placeB ps[m].at_ = false := by simpa using q
            have E := hideIt (pmB_a (ws := ws) hlt2 q')
            go_wp2_with (first | (go_at_call 125; refine (l01InPlace_any _ _).mono ?_; rintro e w' ⟨rfl, rfl⟩) | (go_at_call 67; refine (l01Word_any _ _).mono ?_; rintro e w' ⟨rfl, rfl⟩))
            go_ret
            exact ⟨ret_bool E.out.symm, hb0⟩
        · have E := hideIt (pmB_mk C1.out (by omega) HW.out (fun j h => H.out j h (by omega)))
          go_wp2
          go_ret
          exact ⟨ret_bool E.out.symm, hb0⟩
end Go.Proofs.YtmeiionabonhnaaGreatDoor
