/- Several texts laid together: ThA, ThB. -/
import Derived.Test.YtihmihkhkmadmaaDoorZAF
import Derived.Test.YtihmihkhkmadmaaDoorZAB
import Derived.Deep.RegionWith
namespace Go.Proofs.YtihmihkhkmadmaaDoor
open Go.RowKit
structure Th where
  kind : Int
  links : Int
  pages : List Int
def thZ : Th := ⟨0, 0, []⟩
def thc (u : Th × Value) : List Value := [.int .i64 u.1.kind, .int .i64 u.1.links, u.2]
def thv (us : List (Th × Value)) : List Value := us.flatMap thc
theorem thc_len (u : Th × Value) : (thc u).length = 3 := rfl
theorem thv_len (us : List (Th × Value)) : (thv us).length = us.length * 3 := flatMap_len _ 3 thc_len us
theorem thv_at0 (us : List (Th × Value)) (k : Nat) (h : k < us.length) : (thv us)[k * 3]? = some (.int .i64 us[k].1.kind) := flatMap_at _ 3 thc_len us k 0 h (by omega)
theorem thv_at1 (us : List (Th × Value)) (k : Nat) (h : k < us.length) : (thv us)[k * 3 + 1]? = some (.int .i64 us[k].1.links) := flatMap_at _ 3 thc_len us k 1 h (by omega)
theorem thv_at2 (us : List (Th × Value)) (k : Nat) (h : k < us.length) : (thv us)[k * 3 + 2]? = some us[k].2 := flatMap_at _ 3 thc_len us k 2 h (by omega)
theorem thv_app (us vs : List (Th × Value)) : thv (us ++ vs) = thv us ++ thv vs := by simp [thv]
def RdU (w : World) (v : Value) (us : List (Th × Value)) : Prop := Rd w 3 v us.length (thv us) ∧ ∀ k (h : k < us.length), RdI w us[k].2 us[k].1.pages
def RdTh (w : World) (v : Value) (ts : List Th) : Prop := ∃ us : List (Th × Value), us.map Prod.fst = ts ∧ RdU w v us
theorem RdU.below {w w' : World} {v : Value} {us : List (Th × Value)} (h : RdU w v us) (hb : Below w.heap.size w w') : RdU w' v us := ⟨Rd.below h.1 hb, fun k hk => Rd.below (h.2 k hk) hb⟩
theorem RdTh.below {w w' : World} {v : Value} {ts : List Th} (h : RdTh w v ts) (hb : Below w.heap.size w w') : RdTh w' v ts := by
  obtain ⟨us, e, r⟩ := h
  exact ⟨us, e, r.below hb⟩
theorem RdU.shape {w : World} {v : Value} {us : List (Th × Value)} (h : RdU w v us) : ∃ ao cap, v = .slice ao us.length cap ∧ us.length ≤ cap ∧ (0 < us.length → ∃ b o, ao = some ⟨b, o, none⟩ ∧ b < w.heap.size ∧
    ∀ k (h : k < us.length), w.cell? ⟨b, o + k * 3, none⟩ = some (.int .i64 us[k].1.kind) ∧ w.cell? ⟨b, o + k * 3 + 1, none⟩ = some (.int .i64 us[k].1.links) ∧ w.cell? ⟨b, o + k * 3 + 2, none⟩ = some us[k].2) := by
  obtain ⟨⟨h1, ao, cap, rfl, h2, h3⟩, -⟩ := h
  refine ⟨ao, cap, rfl, h2.1, fun hp => ?_⟩
  obtain ⟨b, o, rfl, hb, hc⟩ := h3 hp
  refine ⟨b, o, rfl, hb, fun k hk => ⟨?_, ?_, ?_⟩⟩
  · exact (hc (k * 3) (by omega)).trans (thv_at0 us k hk)
  · exact (hc (k * 3 + 1) (by omega)).trans (thv_at1 us k hk)
  · exact (hc (k * 3 + 2) (by omega)).trans (thv_at2 us k hk)
def Apt (a b : Value) : Prop := ∀ x, a.ownBlock = some x → ¬ b.ownBlock = some x
structure OwU (w : World) (lo hi : Nat) (v : Value) (us : List (Th × Value)) : Prop where
  row : Row w 57 3 lo hi v us.length (thv us)
  pg : ∀ k (h : k < us.length), Row w 3 1 lo hi us[k].2 us[k].1.pages.length (ints us[k].1.pages)
  ap : ∀ j k (hj : j < us.length) (hk : k < us.length), ¬ j = k → Apt us[j].2 us[k].2
def RowTh (w : World) (lo hi : Nat) (v : Value) (ts : List Th) : Prop := ∃ us : List (Th × Value), us.map Prod.fst = ts ∧ OwU w lo hi v us
theorem OwU.rd {w : World} {lo hi : Nat} {v : Value} {us : List (Th × Value)} (h : OwU w lo hi v us) : RdU w v us := ⟨h.row.rd, fun k hk => (h.pg k hk).rd⟩
theorem RowTh.rd {w : World} {lo hi : Nat} {v : Value} {ts : List Th} (h : RowTh w lo hi v ts) : RdTh w v ts := by
  obtain ⟨us, e, r⟩ := h
  exact ⟨us, e, r.rd⟩
theorem OwU.below {w w' : World} {lo hi : Nat} {v : Value} {us : List (Th × Value)} (h : OwU w lo hi v us) {B : Nat} (hb : Below B w w') (hB : hi ≤ B) : OwU w' lo hi v us := ⟨h.row.below hb hB, fun k hk => (h.pg k hk).below hb hB, h.ap⟩
theorem RowTh.below {w w' : World} {lo hi : Nat} {v : Value} {ts : List Th} (h : RowTh w lo hi v ts) {B : Nat} (hb : Below B w w') (hB : hi ≤ B) : RowTh w' lo hi v ts := by
  obtain ⟨us, e, r⟩ := h
  exact ⟨us, e, r.below hb hB⟩
theorem OwU.outside {w w' : World} {lo hi : Nat} {v : Value} {us : List (Th × Value)} (h : OwU w lo hi v us) {lo' hi' : Nat} (ho : Outside lo' hi' w w') (hd : hi ≤ lo' ∨ hi' ≤ lo) (hz : hi ≤ w.heap.size) : OwU w' lo hi v us := ⟨h.row.outside ho hd hz, fun k hk => (h.pg k hk).outside ho hd hz, h.ap⟩
theorem RowTh.outside {w w' : World} {lo hi : Nat} {v : Value} {ts : List Th} (h : RowTh w lo hi v ts) {lo' hi' : Nat} (ho : Outside lo' hi' w w') (hd : hi ≤ lo' ∨ hi' ≤ lo) (hz : hi ≤ w.heap.size) : RowTh w' lo hi v ts := by
  obtain ⟨us, e, r⟩ := h
  exact ⟨us, e, r.outside ho hd hz⟩
theorem RowTh.nil (w : World) (lo hi : Nat) : RowTh w lo hi (.slice none 0 0) [] := ⟨[], rfl, ⟨Row.nil _ _ _ _ _, fun k h => absurd h (by simp), fun j k h => absurd h (by simp)⟩⟩
theorem map_fst_len {us : List (Th × Value)} {ts : List Th} (e : us.map Prod.fst = ts) : us.length = ts.length := by rw [← e, List.length_map]
theorem map_fst_at {us : List (Th × Value)} {ts : List Th} (e : us.map Prod.fst = ts) (k : Nat) (h : k < us.length) : us[k].1 = ts[k]'(by rw [← map_fst_len e]; exact h) := by
  subst e
  simp
theorem apt_far {w w' : World} {e e' : TypeId} {s s' lo hi lo' hi' : Nat} {v v' : Value} {n n' : Nat} {xs xs' : List Value} (h : Row w e s lo hi v n xs) (h' : Row w' e' s' lo' hi' v' n' xs') (hd : hi ≤ lo' ∨ hi' ≤ lo) : Apt v v' := fun x a b => by
  have p := (h.1.lt x a).1
  have q := h.2 x a
  have r := (h'.1.lt x b).1
  have s := h'.2 x b
  omega
theorem Apt.symm {a b : Value} (h : Apt a b) : Apt b a := fun x p q => h x q p
theorem infoThing : (Tryd.prog.info? 57).map (fun i => (i.zero, i.size, i.bytes)) = some (some (.agg #[.int .i64 0, .int .i64 0, .slice none 0 0]), 3, 40) := by kernel_rfl
def totT : List Th → Nat
  | [] => 0
  | t :: ts => t.pages.length + totT ts
theorem totT_app : ∀ (a b : List Th), totT (a ++ b) = totT a + totT b
  | [], b => by simp [totT]
  | t :: a, b => by
    show t.pages.length + totT (a ++ b) = t.pages.length + totT a + totT b
    rw [totT_app a b]
    omega
theorem totT_take {ts : List Th} {k : Nat} (h : k < ts.length) : totT (ts.take (k + 1)) = totT (ts.take k) + ts[k].pages.length := by
  rw [List.take_add_one, List.getElem?_eq_getElem h, totT_app]
  rfl
theorem totT_part (ts : List Th) (k : Nat) : totT (ts.take k) ≤ totT ts := by
  have e : totT (ts.take k ++ ts.drop k) = totT (ts.take k) + totT (ts.drop k) := totT_app _ _
  rw [List.take_append_drop] at e
  omega
theorem totT_le {ts : List Th} {k : Nat} (h : k < ts.length) : ts[k].pages.length ≤ totT ts := by
  have a := totT_take h
  have b := totT_part ts (k + 1)
  omega
end Go.Proofs.YtihmihkhkmadmaaDoor

namespace Go.Proofs.YtihmihkhkmadmaaDoor
open Go.RowKit
set_option maxHeartbeats 2000000 in
theorem eqThing_same (a b : Int) (va vb : Value) (zs : List Int) (w : World) (ha : RdI w va zs) (hb : RdI w vb zs) (hn : zs.length ≤ 2147483648) :
    Calls Tryd.prog 39 #[.agg #[.int .i64 a, .int .i64 b, va], .agg #[.int .i64 a, .int .i64 b, vb]] w fun e w' => e = .returned (.bool true) ∧ Below w.heap.size w w' := by
  have HA := hideIt ha
  have HB := hideIt hb
  obtain ⟨ao, cap, rfl, -⟩ := ha.shape
  obtain ⟨ao2, cap2, rfl, -⟩ := hb.shape
  clear ha hb
  have hb0 : Below w.heap.size w ((w.alloc (.cells #[.int .i64 a, .int .i64 b, .slice ao zs.length cap] 57)).alloc (.cells #[.int .i64 a, .int .i64 b, .slice ao2 zs.length cap2] 57)) := by
    repeat (refine Below.alloc ?_ (by simp <;> omega) _)
    exact Below.refl _ _
  have B0 := hideIt hb0
  clear hb0
  go_enter Tryd.func39, Tryd.ntmps39
  go_wp2_with (go_at_call 70; refine (eqIntS_same _ _ zs _ (Rd.below HA.out B0.out) (Rd.below HB.out B0.out) hn).mono ?_; rintro e w1 ⟨rfl, hb1⟩)
  go_ret
  exact ⟨rfl, below_trans B0.out hb1 B0.out.size⟩
set_option maxHeartbeats 4000000 in
theorem eqThingU_same (va vb : Value) (us vs : List (Th × Value)) (w : World) (ha : RdU w va us) (hb : RdU w vb vs) (he : us.map Prod.fst = vs.map Prod.fst) (hn : us.length ≤ 2147483648) (hp : ∀ k (h : k < us.length), us[k].1.pages.length ≤ 2147483648) :
    Calls Tryd.prog 17 #[va, vb] w fun e w' => e = .returned (.bool true) ∧ Below w.heap.size w w' := by
  have HA := hideIt ha
  have HB := hideIt hb
  have el : us.length = vs.length := by have := congrArg List.length he; simpa using this
  have EL := hideIt el
  have EA : Hid (∀ k (h : k < us.length), us[k].1 = (vs[k]'(Nat.lt_of_lt_of_eq h EL.out)).1) := fun k h => by
    have := congrArg (fun l => l[k]?) he
    simpa [h, show k < vs.length by omega] using this
  obtain ⟨ao, cap, rfl, hcap, hc⟩ := ha.shape
  obtain ⟨ao2, cap2, rfl, hcap2, hc2⟩ := hb.shape
  rw [← el]
  have HP := hideIt hp
  clear ha hb he hp el
  go_enter Tryd.func17, Tryd.ntmps17
  go_wp2
  go_loopw [5] (fun i wr => ∃ k : Nat, k ≤ us.length ∧ i = .int .i64 k ∧ Below w.heap.size w wr) (fun i _ => us.length - (intOf i).toNat)
  case atStart => exact ⟨0, by omega, rfl, Below.refl _ _⟩
  case round =>
    obtain ⟨k, hk, rfl, hbw⟩ := hrel
    by_cases hlt : k < us.length
    · obtain ⟨b, o, rfl, hbl, hcell⟩ := hc (by omega)
      obtain ⟨b2, o2, rfl, hbl2, hcell2⟩ := hc2 (by have := EL.out; omega)
      obtain ⟨c0, c1, c2⟩ := hcell k hlt
      obtain ⟨c3, c4, c5⟩ := hcell2 k (Nat.lt_of_lt_of_eq hlt EL.out)
      rw [← EA.out k hlt] at c3 c4
      have d0 := (hbw.cell (p := ⟨b, o + k * 3, none⟩) hbl).trans c0
      have d1 := (hbw.cell (p := ⟨b, o + k * 3 + 1, none⟩) hbl).trans c1
      have d2 := (hbw.cell (p := ⟨b, o + k * 3 + 2, none⟩) hbl).trans c2
      have d3 := (hbw.cell (p := ⟨b2, o2 + k * 3, none⟩) hbl2).trans c3
      have d4 := (hbw.cell (p := ⟨b2, o2 + k * 3 + 1, none⟩) hbl2).trans c4
      have d5 := (hbw.cell (p := ⟨b2, o2 + k * 3 + 2, none⟩) hbl2).trans c5
      have hlt' : (k : Int) < (us.length : Int) := by omega
      have hge : (0 : Int) ≤ (k : Int) := by omega
      have hz := hbw.size
      have BW := hideIt hbw
      have R1 : Hid (RdI w us[k].2 us[k].1.pages) := HA.out.2 k hlt
      have R2 : Hid (RdI w (vs[k]'(Nat.lt_of_lt_of_eq hlt EL.out)).2 us[k].1.pages) := by
        have := HB.out.2 k (Nat.lt_of_lt_of_eq hlt EL.out)
        rw [← EA.out k hlt] at this
        exact this
      have hpk := HP.out k hlt
      obtain ⟨x1, y1, e1, -⟩ := R1.out.shape
      obtain ⟨x2, y2, e2, -⟩ := R2.out.shape
      rw [e1] at d2 R1
      rw [e2] at d5 R2
      clear hcell hcell2 hc hc2 c0 c1 c2 c3 c4 c5 hbw e1 e2 EA HA HB HP
      generalize us[k].1.pages = zs at *
      generalize us[k].1.kind = q1 at *
      generalize us[k].1.links = q2 at *
      go_wp2_with fail
      go_region_with (go_at_call 39; refine (eqThing_same _ _ _ _ zs _ (Rd.below R1.out (by first | exact BW.out | exact BW.out.drew)) (Rd.below R2.out (by first | exact BW.out | exact BW.out.drew)) hpk).mono ?_; rintro e w1 ⟨rfl, hb1⟩)
      all_goals
        go_wp2
        go_roundw
        case rel => exact ⟨k + 1, by omega, by go_num, BW.out.trans (Below.mono (Below.trans ((Below.refl _ _).drew) ‹_›) hz)⟩
        case measure => simp [intOf]; omega
    · go_wp2
      go_ret
      exact ⟨rfl, hbw⟩
theorem eqThingS_same (va vb : Value) (ts : List Th) (w : World) (ha : RdTh w va ts) (hb : RdTh w vb ts) (hn : ts.length ≤ 2147483648) (hp : ∀ k (h : k < ts.length), ts[k].pages.length ≤ 2147483648) :
    Calls Tryd.prog 17 #[va, vb] w fun e w' => e = .returned (.bool true) ∧ Below w.heap.size w w' := by
  obtain ⟨us, eu, ru⟩ := ha
  obtain ⟨vs, ev, rv⟩ := hb
  refine eqThingU_same va vb us vs w ru rv (by rw [eu, ev]) (by rw [map_fst_len eu]; exact hn) (fun k h => ?_)
  rw [map_fst_at eu k h]
  exact hp k _
end Go.Proofs.YtihmihkhkmadmaaDoor
