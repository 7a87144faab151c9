/- Several texts laid together: ThB, ThC. -/
import Derived.Test.YtmeiionabonhnaaGreatDoorZBC
import Derived.Deep.RegionWith
namespace Go.Proofs.YtmeiionabonhnaaGreatDoor
open Go.RowKit
set_option maxHeartbeats 2000000 in
theorem eqThing_same (a b : Int) (va vb : Value) (zs : List Int) (w : World) (ha : RdI w va zs) (hb : RdI w vb zs) (hn : zs.length ≤ 2147483648) :
    Calls Tryz.prog 82 #[.agg #[.int .i64 a, .int .i64 b, va], .agg #[.int .i64 a, .int .i64 b, vb]] w fun e w' => e = .returned (.bool true) ∧ Below w.heap.size w w' := by
  have HA := hideIt ha
  have HB := hideIt hb
  obtain ⟨ao, cap, rfl, -⟩ := ha.shape
  obtain ⟨ao2, cap2, rfl, -⟩ := hb.shape
  clear ha hb
  have hb0 : Below w.heap.size w ((w.alloc (.cells #[.int .i64 a, .int .i64 b, .slice ao zs.length cap] 102)).alloc (.cells #[.int .i64 a, .int .i64 b, .slice ao2 zs.length cap2] 102)) := by
    repeat (refine Below.alloc ?_ (by simp <;> omega) _)
    exact Below.refl _ _
  have B0 := hideIt hb0
  clear hb0
  go_enter Tryz.func82, Tryz.ntmps82
  go_wp2_with (go_at_call 103; refine (eqIntS_same _ _ zs _ (Rd.below HA.out B0.out) (Rd.below HB.out B0.out) hn).mono ?_; rintro e w1 ⟨rfl, hb1⟩)
  go_ret
  exact ⟨rfl, below_trans B0.out hb1 B0.out.size⟩
set_option maxHeartbeats 4000000 in
theorem eqThingU_same (va vb : Value) (us vs : List (Th × Value)) (w : World) (ha : RdU w va us) (hb : RdU w vb vs) (he : us.map Prod.fst = vs.map Prod.fst) (hn : us.length ≤ 2147483648) (hp : ∀ k (h : k < us.length), us[k].1.pages.length ≤ 2147483648) :
    Calls Tryz.prog 37 #[va, vb] w fun e w' => e = .returned (.bool true) ∧ Below w.heap.size w w' := by
  have HA := hideIt ha
  have HB := hideIt hb
  have el : us.length = vs.length := by have := congrArg List.length he; simpa using this
  have EL := hideIt el
  have EA : Hid (∀ k (h : k < us.length), us[k].1 = (vs[k]'(Nat.lt_of_lt_of_eq h EL.out)).1) := fun k h => by
    have := congrArg (fun l => l[k]?) he
    simpa [h, show k < vs.length by omega] using this
  obtain ⟨ao, cap, rfl, hcap, hc⟩ := ha.shape
  obtain ⟨ao2, cap2, rfl, hcap2, hc2⟩ := hb.shape
  rw [← el]
  have HP := hideIt hp
  clear ha hb he hp el
  go_enter Tryz.func37, Tryz.ntmps37
  go_wp2
  go_loopw [5] (fun i wr => ∃ k : Nat, k ≤ us.length ∧ i = .int .i64 k ∧ Below w.heap.size w wr) (fun i _ => us.length - (intOf i).toNat)
  case atStart => exact ⟨0, by omega, rfl, Below.refl _ _⟩
  case round =>
    obtain ⟨k, hk, rfl, hbw⟩ := hrel
    by_cases hlt : k < us.length
    · obtain ⟨b, o, rfl, hbl, hcell⟩ := hc (by omega)
      obtain ⟨b2, o2, rfl, hbl2, hcell2⟩ := hc2 (by have := EL.out; omega)
      obtain ⟨c0, c1, c2⟩ := hcell k hlt
      obtain ⟨c3, c4, c5⟩ := hcell2 k (Nat.lt_of_lt_of_eq hlt EL.out)
      rw [← EA.out k hlt] at c3 c4
      have d0 := (hbw.cell (p := ⟨b, o + k * 3, none⟩) hbl).trans c0
      have d1 := (hbw.cell (p := ⟨b, o + k * 3 + 1, none⟩) hbl).trans c1
      have d2 := (hbw.cell (p := ⟨b, o + k * 3 + 2, none⟩) hbl).trans c2
      have d3 := (hbw.cell (p := ⟨b2, o2 + k * 3, none⟩) hbl2).trans c3
      have d4 := (hbw.cell (p := ⟨b2, o2 + k * 3 + 1, none⟩) hbl2).trans c4
      have d5 := (hbw.cell (p := ⟨b2, o2 + k * 3 + 2, none⟩) hbl2).trans c5
      have hlt' : (k : Int) < (us.length : Int) := by omega
      have hge : (0 : Int) ≤ (k : Int) := by omega
      have hz := hbw.size
      have BW := hideIt hbw
      have R1 : Hid (RdI w us[k].2 us[k].1.pages) := HA.out.2 k hlt
      have R2 : Hid (RdI w (vs[k]'(Nat.lt_of_lt_of_eq hlt EL.out)).2 us[k].1.pages) := by
        have := HB.out.2 k (Nat.lt_of_lt_of_eq hlt EL.out)
        rw [← EA.out k hlt] at this
        exact this
      have hpk := HP.out k hlt
      obtain ⟨x1, y1, e1, -⟩ := R1.out.shape
      obtain ⟨x2, y2, e2, -⟩ := R2.out.shape
      rw [e1] at d2 R1
      rw [e2] at d5 R2
      clear hcell hcell2 hc hc2 c0 c1 c2 c3 c4 c5 hbw e1 e2 EA HA HB HP
      generalize us[k].1.pages = zs at *
      generalize us[k].1.kind = q1 at *
      generalize us[k].1.links = q2 at *
      go_wp2_with fail
      go_region_with (go_at_call 82; refine (eqThing_same _ _ _ _ zs _ (Rd.below R1.out (by first | exact BW.out | exact BW.out.drew)) (Rd.below R2.out (by first | exact BW.out | exact BW.out.drew)) hpk).mono ?_; rintro e w1 ⟨rfl, hb1⟩)
      all_goals
        go_wp2
        go_roundw
        case rel => exact ⟨k + 1, by omega, by go_num, BW.out.trans (Below.mono (Below.trans ((Below.refl _ _).drew) ‹_›) hz)⟩
        case measure => simp [intOf]; omega
    · go_wp2
      go_ret
      exact ⟨rfl, hbw⟩
theorem eqThingS_same (va vb : Value) (ts : List Th) (w : World) (ha : RdTh w va ts) (hb : RdTh w vb ts) (hn : ts.length ≤ 2147483648) (hp : ∀ k (h : k < ts.length), ts[k].pages.length ≤ 2147483648) :
    Calls Tryz.prog 37 #[va, vb] w fun e w' => e = .returned (.bool true) ∧ Below w.heap.size w w' := by
  obtain ⟨us, eu, ru⟩ := ha
  obtain ⟨vs, ev, rv⟩ := hb
  refine eqThingU_same va vb us vs w ru rv (by rw [eu, ev]) (by rw [map_fst_len eu]; exact hn) (fun k h => ?_)
  rw [map_fst_at eu k h]
  exact hp k _
end Go.Proofs.YtmeiionabonhnaaGreatDoor

namespace Go.Proofs.YtmeiionabonhnaaGreatDoor
open Go.RowKit
def kT (k0 : Int) (ts : List Th) (j : Nat) : Int := k0 + 2 * (j : Int) + (totT (ts.take j) : Int)
def mT (k0 : Int) (ts : List Th) (j : Nat) (n : Nat) : Th := ⟨kT k0 ts j, kT k0 ts j + 1, marks (kT k0 ts j + 2) n⟩
def marksTh (k0 : Int) (ts : List Th) : List Th := ts.mapIdx fun j t => mT k0 ts j t.pages.length
theorem marksTh_len (k0 : Int) (ts : List Th) : (marksTh k0 ts).length = ts.length := by simp [marksTh]
theorem marksTh_at (k0 : Int) (ts : List Th) (j : Nat) (h : j < (marksTh k0 ts).length) : (marksTh k0 ts)[j] = mT k0 ts j (ts[j]'(by rw [marksTh_len] at h; exact h)).pages.length := by simp [marksTh]
theorem kT_zero (k0 : Int) (ts : List Th) : kT k0 ts 0 = k0 := by simp [kT, totT]
theorem kT_succ {k0 : Int} {ts : List Th} {j : Nat} (h : j < ts.length) : kT k0 ts (j + 1) = kT k0 ts j + 2 + (ts[j].pages.length : Int) := by
  unfold kT
  rw [totT_take h]
  omega
theorem kT_end (k0 : Int) (ts : List Th) : kT k0 ts ts.length = k0 + 2 * (ts.length : Int) + (totT ts : Int) := by
  unfold kT
  rw [List.take_length]
theorem kT_le {k0 : Int} {ts : List Th} {j : Nat} (h : j ≤ ts.length) : k0 ≤ kT k0 ts j ∧ kT k0 ts j ≤ k0 + 2 * (ts.length : Int) + (totT ts : Int) := by
  unfold kT
  have := totT_part ts j
  omega
def mkTh (k0 : Int) (us : List (Th × Value)) (k : Nat) : List (Th × Value) := us.mapIdx fun j u => if j < k then (mT k0 (us.map Prod.fst) j u.1.pages.length, u.2) else u
theorem mkTh_len (k0 : Int) (us : List (Th × Value)) (k : Nat) : (mkTh k0 us k).length = us.length := by simp [mkTh]
theorem mkTh_at (k0 : Int) (us : List (Th × Value)) (k j : Nat) (h : j < (mkTh k0 us k).length) : (mkTh k0 us k)[j] = if j < k then (mT k0 (us.map Prod.fst) j (us[j]'(by rw [mkTh_len] at h; exact h)).1.pages.length, (us[j]'(by rw [mkTh_len] at h; exact h)).2) else us[j]'(by rw [mkTh_len] at h; exact h) := by simp [mkTh]
theorem mkTh_zero (k0 : Int) (us : List (Th × Value)) : mkTh k0 us 0 = us := by
  apply List.ext_getElem
  · exact mkTh_len _ _ _
  · intro j h1 h2
    rw [mkTh_at]
    rw [if_neg (by omega)]
theorem mkTh_all (k0 : Int) (us : List (Th × Value)) : (mkTh k0 us us.length).map Prod.fst = marksTh k0 (us.map Prod.fst) := by
  apply List.ext_getElem
  · simp [mkTh, marksTh]
  · intro j h1 h2
    have hj : j < us.length := by simpa [mkTh] using h1
    rw [List.getElem_map, mkTh_at, if_pos hj, marksTh_at]
    simp
theorem mkTh_step {k0 : Int} {us : List (Th × Value)} {k : Nat} (h : k < us.length) : mkTh k0 us (k + 1) = (mkTh k0 us k).set k (mT k0 (us.map Prod.fst) k us[k].1.pages.length, us[k].2) := by
  apply List.ext_getElem
  · rw [List.length_set, mkTh_len, mkTh_len]
  · intro j h1 h2
    have hj : j < us.length := by rw [mkTh_len] at h1; exact h1
    rw [mkTh_at]
    by_cases e : k = j
    · subst e
      rw [List.getElem_set_self, if_pos (by omega)]
    · rw [List.getElem_set_ne e, mkTh_at]
      by_cases q : j < k
      · rw [if_pos (by omega), if_pos q]
      · rw [if_neg (by omega), if_neg q]
theorem thv_set {us : List (Th × Value)} {k : Nat} (h : k < us.length) (t : Th) : thv (us.set k (t, us[k].2)) = ((thv us).set (k * 3) (.int .i64 t.kind)).set (k * 3 + 1) (.int .i64 t.links) := by
  apply List.ext_getElem?
  intro j
  by_cases hj : j < us.length * 3
  · obtain ⟨q, r, hr, rfl⟩ : ∃ q r, r < 3 ∧ j = q * 3 + r := ⟨j / 3, j % 3, Nat.mod_lt _ (by omega), by omega⟩
    have hq : q < us.length := by omega
    have hq2 : q < (us.set k (t, us[k].2)).length := by rw [List.length_set]; exact hq
    have L1 : (thv us).length = us.length * 3 := thv_len us
    rw [set_at (by rw [List.length_set, L1]; omega), set_at (by rw [L1]; omega)]
    have hA : (thv (us.set k (t, us[k].2)))[q * 3 + r]? = (thc ((us.set k (t, us[k].2))[q]))[r]? := flatMap_at _ 3 thc_len _ q r hq2 hr
    have hB : (thv us)[q * 3 + r]? = (thc us[q])[r]? := flatMap_at _ 3 thc_len _ q r hq hr
    rw [hA, hB]
    by_cases e : k = q
    · subst e
      rw [List.getElem_set_self]
      have : r = 0 ∨ r = 1 ∨ r = 2 := by omega
      rcases this with rfl | rfl | rfl
      · rw [if_neg (by omega), if_pos (by omega)]; rfl
      · rw [if_pos (by omega)]; rfl
      · rw [if_neg (by omega), if_neg (by omega)]; rfl
    · rw [List.getElem_set_ne e, if_neg (by omega), if_neg (by omega)]
  · rw [List.getElem?_eq_none (by rw [thv_len, List.length_set]; omega), List.getElem?_eq_none (by rw [List.length_set, List.length_set, thv_len]; omega)]
theorem OwU.other {w : World} {lo hi : Nat} {b n cap : Nat} {us : List (Th × Value)} (h : OwU w lo hi (.slice (some ⟨b, 0, none⟩) n cap) us) (j : Nat) (hj : j < us.length) : us[j].2.ownBlock ≠ some b := by
  rcases h.row.1.2 with ⟨e, _⟩ | ⟨g, cp, cur, e, _, hg, _⟩
  · cases e
  · cases e
    exact (h.pg j hj).ne_type hg (by decide)
theorem OwU.put {w : World} {lo hi : Nat} {b n cap : Nat} {us : List (Th × Value)} (h : OwU w lo hi (.slice (some ⟨b, 0, none⟩) n cap) us) (k : Nat) (hk : k < us.length) (a c : Int) (en : n = us.length) :
    OwU ((w.setCell ⟨b, k * 3, none⟩ (.int .i64 a)).setCell ⟨b, k * 3 + 1, none⟩ (.int .i64 c)) lo hi (.slice (some ⟨b, 0, none⟩) n cap) (us.set k (⟨a, c, us[k].1.pages⟩, us[k].2)) := by
  have L : (us.set k (⟨a, c, us[k].1.pages⟩, us[k].2)).length = us.length := List.length_set
  subst en
  refine ⟨?_, fun j hj => ?_, fun i j hi hj ne => ?_⟩
  · rw [L, thv_set hk]
    exact (h.row.stored (k * 3) _).stored (k * 3 + 1) _
  · have hj' : j < us.length := by rw [L] at hj; exact hj
    have r := ((h.pg j hj').setOther (a := ⟨b, k * 3, none⟩) (h.other j hj') (.int .i64 a)).setOther (a := ⟨b, k * 3 + 1, none⟩) (h.other j hj') (.int .i64 c)
    by_cases e : k = j
    · subst e
      rw [List.getElem_set_self]
      exact r
    · rw [List.getElem_set_ne e]
      exact r
  · have hi' : i < us.length := by rw [L] at hi; exact hi
    have hj' : j < us.length := by rw [L] at hj; exact hj
    have e2 : ∀ m (hm : m < us.length), ((us.set k (⟨a, c, us[k].1.pages⟩, us[k].2))[m]'(by rw [L]; exact hm)).2 = us[m].2 := fun m hm => by
      by_cases e : k = m
      · subst e; rw [List.getElem_set_self]
      · rw [List.getElem_set_ne e]
    rw [e2 i hi', e2 j hj']
    exact h.ap i j hi' hj' ne
theorem OwU.page {w w' : World} {lo hi : Nat} {v : Value} {us : List (Th × Value)} (h : OwU w lo hi v us) (k : Nat) (hk : k < us.length) (zs : List Int) (hl : zs.length = us[k].1.pages.length) (hr : Row w' 3 1 lo hi us[k].2 us[k].1.pages.length (ints zs)) (hg : w.grownBy w' us[k].2.ownBlock) :
    OwU w' lo hi v (us.set k (⟨us[k].1.kind, us[k].1.links, zs⟩, us[k].2)) := by
  have L : (us.set k (⟨us[k].1.kind, us[k].1.links, zs⟩, us[k].2)).length = us.length := List.length_set
  have T1 : thv (us.set k (⟨us[k].1.kind, us[k].1.links, zs⟩, us[k].2)) = thv us := by
    rw [thv_set hk]
    apply List.ext_getElem?
    intro j
    have L1 : (thv us).length = us.length * 3 := thv_len us
    by_cases hj : j < us.length * 3
    · rw [set_at (by rw [List.length_set, L1]; omega), set_at (by rw [L1]; omega)]
      split
      · rename_i e; rw [e, thv_at1 us k hk]
      · split
        · rename_i e; rw [e, thv_at0 us k hk]
        · rfl
    · rw [List.getElem?_eq_none (by rw [List.length_set, List.length_set, L1]; omega), List.getElem?_eq_none (by rw [L1]; omega)]
  refine ⟨?_, fun j hj => ?_, fun i j hi hj ne => ?_⟩
  · rw [L, T1]
    exact h.row.apart (h.pg k hk) (by decide) hg
  · have hj' : j < us.length := by rw [L] at hj; exact hj
    by_cases e : k = j
    · subst e
      rw [List.getElem_set_self]
      rw [← hl] at hr
      exact hr
    · rw [List.getElem_set_ne e]
      refine (h.pg j hj').sameV (fun b hb => hg.block b ?_ (fun q => h.ap j k hj' hk (fun z => e z.symm) b hb q.symm))
      exact ((h.pg j hj').1.lt b hb).2
  · have hi' : i < us.length := by rw [L] at hi; exact hi
    have hj' : j < us.length := by rw [L] at hj; exact hj
    have e2 : ∀ m (hm : m < us.length), ((us.set k (⟨us[k].1.kind, us[k].1.links, zs⟩, us[k].2))[m]'(by rw [L]; exact hm)).2 = us[m].2 := fun m hm => by
      by_cases e : k = m
      · subst e; rw [List.getElem_set_self]
      · rw [List.getElem_set_ne e]
    rw [e2 i hi', e2 j hj']
    exact h.ap i j hi' hj' ne
end Go.Proofs.YtmeiionabonhnaaGreatDoor
