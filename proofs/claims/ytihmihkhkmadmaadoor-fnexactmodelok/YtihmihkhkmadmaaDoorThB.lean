/- Rows of things: held against one another, marked, looked at. -/
import Derived.Test.YtihmihkhkmadmaaDoorZAC
import Derived.Deep.RegionWith
namespace Go.Proofs.YtihmihkhkmadmaaDoor
open Go.RowKit
set_option maxHeartbeats 2000000 in
theorem eqThing_same (a b : Int) (va vb : Value) (zs : List Int) (w : World) (ha : RdI w va zs) (hb : RdI w vb zs) (hn : zs.length ≤ 2147483648) :
    Calls Tryd.prog 39 #[.agg #[.int .i64 a, .int .i64 b, va], .agg #[.int .i64 a, .int .i64 b, vb]] w fun e w' => e = .returned (.bool true) ∧ Below w.heap.size w w' := by
  have HA := hideIt ha
  have HB := hideIt hb
  obtain ⟨ao, cap, rfl, -⟩ := ha.shape
  obtain ⟨ao2, cap2, rfl, -⟩ := hb.shape
  clear ha hb
  have hb0 : Below w.heap.size w ((w.alloc (.cells #[.int .i64 a, .int .i64 b, .slice ao zs.length cap] 57)).alloc (.cells #[.int .i64 a, .int .i64 b, .slice ao2 zs.length cap2] 57)) := by
    repeat (refine Below.alloc ?_ (by simp <;> omega) _)
    exact Below.refl _ _
  have B0 := hideIt hb0
  clear hb0
  go_enter Tryd.func39, Tryd.ntmps39
  go_wp2_with (go_at_call 70; refine (eqIntS_same _ _ zs _ (Rd.below HA.out B0.out) (Rd.below HB.out B0.out) hn).mono ?_; rintro e w1 ⟨rfl, hb1⟩)
  go_ret
  exact ⟨rfl, below_trans B0.out hb1 B0.out.size⟩
set_option maxHeartbeats 4000000 in
theorem eqThingU_same (va vb : Value) (us vs : List (Th × Value)) (w : World) (ha : RdU w va us) (hb : RdU w vb vs) (he : us.map Prod.fst = vs.map Prod.fst) (hn : us.length ≤ 2147483648) (hp : ∀ k (h : k < us.length), us[k].1.pages.length ≤ 2147483648) :
    Calls Tryd.prog 17 #[va, vb] w fun e w' => e = .returned (.bool true) ∧ Below w.heap.size w w' := by
  have HA := hideIt ha
  have HB := hideIt hb
  have el : us.length = vs.length := by have := congrArg List.length he; simpa using this
  have EL := hideIt el
  have EA : Hid (∀ k (h : k < us.length), us[k].1 = (vs[k]'(Nat.lt_of_lt_of_eq h EL.out)).1) := fun k h => by
    have := congrArg (fun l => l[k]?) he
    simpa [h, show k < vs.length by omega] using this
  obtain ⟨ao, cap, rfl, hcap, hc⟩ := ha.shape
  obtain ⟨ao2, cap2, rfl, hcap2, hc2⟩ := hb.shape
  rw [← el]
  have HP := hideIt hp
  clear ha hb he hp el
  go_enter Tryd.func17, Tryd.ntmps17
  go_wp2
  go_loopw [5] (fun i wr => ∃ k : Nat, k ≤ us.length ∧ i = .int .i64 k ∧ Below w.heap.size w wr) (fun i _ => us.length - (intOf i).toNat)
  case atStart => exact ⟨0, by omega, rfl, Below.refl _ _⟩
  case round =>
    obtain ⟨k, hk, rfl, hbw⟩ := hrel
    by_cases hlt : k < us.length
    · obtain ⟨b, o, rfl, hbl, hcell⟩ := hc (by omega)
      obtain ⟨b2, o2, rfl, hbl2, hcell2⟩ := hc2 (by have := EL.out; omega)
      obtain ⟨c0, c1, c2⟩ := hcell k hlt
      obtain ⟨c3, c4, c5⟩ := hcell2 k (Nat.lt_of_lt_of_eq hlt EL.out)
      rw [← EA.out k hlt] at c3 c4
      have d0 := (hbw.cell (p := ⟨b, o + k * 3, none⟩) hbl).trans c0
      have d1 := (hbw.cell (p := ⟨b, o + k * 3 + 1, none⟩) hbl).trans c1
      have d2 := (hbw.cell (p := ⟨b, o + k * 3 + 2, none⟩) hbl).trans c2
      have d3 := (hbw.cell (p := ⟨b2, o2 + k * 3, none⟩) hbl2).trans c3
      have d4 := (hbw.cell (p := ⟨b2, o2 + k * 3 + 1, none⟩) hbl2).trans c4
      have d5 := (hbw.cell (p := ⟨b2, o2 + k * 3 + 2, none⟩) hbl2).trans c5
      have hlt' : (k : Int) < (us.length : Int) := by omega
      have hge : (0 : Int) ≤ (k : Int) := by omega
      have hz := hbw.size
      have BW := hideIt hbw
      have R1 : Hid (RdI w us[k].2 us[k].1.pages) := HA.out.2 k hlt
      have R2 : Hid (RdI w (vs[k]'(Nat.lt_of_lt_of_eq hlt EL.out)).2 us[k].1.pages) := by
        have := HB.out.2 k (Nat.lt_of_lt_of_eq hlt EL.out)
        rw [← EA.out k hlt] at this
        exact this
      have hpk := HP.out k hlt
      obtain ⟨x1, y1, e1, -⟩ := R1.out.shape
      obtain ⟨x2, y2, e2, -⟩ := R2.out.shape
      rw [e1] at d2 R1
      rw [e2] at d5 R2
      clear hcell hcell2 hc hc2 c0 c1 c2 c3 c4 c5 hbw e1 e2 EA HA HB HP
      generalize us[k].1.pages = zs at *
      generalize us[k].1.kind = q1 at *
      generalize us[k].1.links = q2 at *
      go_wp2_with fail
      go_region_with (go_at_call 39; refine (eqThing_same _ _ _ _ zs _ (Rd.below R1.out (by first | exact BW.out | exact BW.out.drew)) (Rd.below R2.out (by first | exact BW.out | exact BW.out.drew)) hpk).mono ?_; rintro e w1 ⟨rfl, hb1⟩)
      all_goals
        go_wp2
        go_roundw
        case rel => exact ⟨k + 1, by omega, by go_num, BW.out.trans (Below.mono (Below.trans ((Below.refl _ _).drew) ‹_›) hz)⟩
        case measure => simp [intOf]; omega
    · go_wp2
      go_ret
      exact ⟨rfl, hbw⟩
theorem eqThingS_same (va vb : Value) (ts : List Th) (w : World) (ha : RdTh w va ts) (hb : RdTh w vb ts) (hn : ts.length ≤ 2147483648) (hp : ∀ k (h : k < ts.length), ts[k].pages.length ≤ 2147483648) :
    Calls Tryd.prog 17 #[va, vb] w fun e w' => e = .returned (.bool true) ∧ Below w.heap.size w w' := by
  obtain ⟨us, eu, ru⟩ := ha
  obtain ⟨vs, ev, rv⟩ := hb
  refine eqThingU_same va vb us vs w ru rv (by rw [eu, ev]) (by rw [map_fst_len eu]; exact hn) (fun k h => ?_)
  rw [map_fst_at eu k h]
  exact hp k _
end Go.Proofs.YtihmihkhkmadmaaDoor
