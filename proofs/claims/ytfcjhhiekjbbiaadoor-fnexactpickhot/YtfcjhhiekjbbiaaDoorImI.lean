/- Inodes: alike, and their room; images handed on. -/
import Derived.Test.YtfcjhhiekjbbiaaDoorImH
import Derived.Test.YtfcjhhiekjbbiaaDoorImG
namespace Go.Proofs.YtfcjhhiekjbbiaaDoor
open Go.RowKit

set_option maxRecDepth 100000 in
set_option maxHeartbeats 4000000 in
theorem eqIntA8_same (m0 m1 m2 m3 m4 m5 m6 m7 : Int) (w : World) : Calls Tryd.prog 54 #[.agg #[.int .i64 m0, .int .i64 m1, .int .i64 m2, .int .i64 m3, .int .i64 m4, .int .i64 m5, .int .i64 m6, .int .i64 m7], .agg #[.int .i64 m0, .int .i64 m1, .int .i64 m2, .int .i64 m3, .int .i64 m4, .int .i64 m5, .int .i64 m6, .int .i64 m7]] w fun e w' => e = .returned (.bool true) ∧ Below w.heap.size w w' := by
  obtain ⟨zs, hzs⟩ : ∃ zs : List Value, zs = [.int .i64 m0, .int .i64 m1, .int .i64 m2, .int .i64 m3, .int .i64 m4, .int .i64 m5, .int .i64 m6, .int .i64 m7] := ⟨_, rfl⟩
  have hl : zs.length = 8 := by rw [hzs]; rfl
  have HI := hideIt (show ∀ k (h : k < zs.length), ∃ z : Int, zs[k] = .int .i64 z by
    rw [hzs]
    intro k h
    rcases (show k = 0 ∨ k = 1 ∨ k = 2 ∨ k = 3 ∨ k = 4 ∨ k = 5 ∨ k = 6 ∨ k = 7 by simp at h; omega) with rfl | rfl | rfl | rfl | rfl | rfl | rfl | rfl <;> exact ⟨_, rfl⟩)
  have ha : (.agg #[.int .i64 m0, .int .i64 m1, .int .i64 m2, .int .i64 m3, .int .i64 m4, .int .i64 m5, .int .i64 m6, .int .i64 m7] : Value) = .agg zs.toArray := by rw [hzs]
  rw [ha]
  clear ha hzs
  obtain ⟨W, hW⟩ : ∃ W, W = (w.alloc (.cells zs.toArray 54)).alloc (.cells zs.toArray 54) := ⟨_, rfl⟩
  have CA : Hid (∀ w', Below W.heap.size W w' → ∀ j, w'.cell? ⟨w.heap.size, j, none⟩ = zs[j]? ∧ w'.cell? ⟨w.heap.size + 1, j, none⟩ = zs[j]?) := fun w' hb j => by
    have h1 : w'.heap[w.heap.size]? = some (.cells zs.toArray 54 (0, 0)) := (hb.block _ (by rw [hW]; simp; omega)).trans (by rw [hW]; exact at_old (at_new rfl))
    have h2 : w'.heap[w.heap.size + 1]? = some (.cells zs.toArray 54 (0, 0)) := (hb.block _ (by rw [hW]; simp)).trans (by rw [hW]; exact at_new (by simp))
    exact ⟨(eight_at (xs := zs) h1 j).1, (eight_at (xs := zs) h2 j).1⟩
  have BW : Hid (Below w.heap.size w W) := by
    show Below _ _ _
    rw [hW]
    repeat (refine Below.alloc ?_ (by simp <;> omega) _)
    exact Below.refl _ _
  go_enter Tryd.func54, Tryd.ntmps54
  go_wp2
  rw [← hW]
  clear hW
  go_loopw [5] (fun i wr => ∃ k : Nat, k ≤ 8 ∧ i = .int .i64 k ∧ Hid (Below W.heap.size W wr)) (fun i _ => 8 - (intOf i).toNat)
  case atStart => exact ⟨0, by omega, rfl, Below.refl _ _⟩
  case round =>
    obtain ⟨k, hk, rfl, J⟩ := hrel
    by_cases hlt : k < 8
    · obtain ⟨z, hz⟩ := HI.out k (by omega)
      obtain ⟨d0, d1⟩ := CA.out wr J.out k
      rw [List.getElem?_eq_getElem (by omega), hz] at d0 d1
      have k0 : (0 : Int) ≤ (k : Int) := by omega
      have k1 : (k : Int) < 8 := by omega
      have J1 := hideIt J.out.drew
      clear CA HI hz hl
      go_wp2_with fail
      go_region_with fail
      all_goals
        go_wp2
        go_roundw
        case rel => exact ⟨k + 1, by omega, by go_num, J1⟩
        case measure => simp [intOf]; omega
    · obtain rfl : k = 8 := by omega
      go_wp2
      go_ret
      exact ⟨rfl, below_trans BW.out J.out BW.out.size⟩

set_option maxRecDepth 100000 in
set_option maxHeartbeats 4000000 in
theorem eqInode_same (x : Ino) (w : World) : Calls Tryd.prog 35 #[x.v, x.v] w fun e w' => e = .returned (.bool true) ∧ Below w.heap.size w w' := by
  unfold Ino.v
  go_enter Tryd.func35, Tryd.ntmps35
  go_wp2_with fail
  refine (eqIntA8_same _ _ _ _ _ _ _ _ _).mono ?_
  rintro e w1 ⟨rfl, hb1⟩
  have B1 : Hid (Below w.heap.size w w1) := by
    refine Below.trans ?_ (hb1.mono (by simp <;> omega))
    repeat (refine Below.alloc ?_ (by simp <;> omega) _)
    exact Below.refl _ _
  clear hb1
  go_wp2
  go_ret
  exact ⟨rfl, B1.out⟩

set_option maxRecDepth 100000 in
set_option maxHeartbeats 4000000 in
theorem eqInodeS_same (va vb : Value) (ps : List Ino) (w : World) (ha : RdN w va ps) (hb : RdN w vb ps) (hn : ps.length ≤ 2147483648) :
    Calls Tryd.prog 21 #[va, vb] w fun e w' => e = .returned (.bool true) ∧ Below w.heap.size w w' := by
  obtain ⟨ao, cap, rfl, hcap, hc⟩ := ha.shape
  obtain ⟨ao2, cap2, rfl, hcap2, hc2⟩ := hb.shape
  clear ha hb
  go_enter Tryd.func21, Tryd.ntmps21
  go_wp2
  go_loopw [5] (fun i wr => ∃ k : Nat, k ≤ ps.length ∧ i = .int .i64 k ∧ Below w.heap.size w wr) (fun i _ => ps.length - (intOf i).toNat)
  case atStart => exact ⟨0, by omega, rfl, Below.refl _ _⟩
  case round =>
    obtain ⟨k, hk, rfl, hbw⟩ := hrel
    by_cases hlt : k < ps.length
    · obtain ⟨b, o, rfl, hbl, hcell⟩ := hc (by omega)
      obtain ⟨b2, o2, rfl, hbl2, hcell2⟩ := hc2 (by omega)
      obtain ⟨c0, c1, c2, c3, c4, c5, c6, c7, c8, c9, c10⟩ := hcell k hlt
      obtain ⟨g0, g1, g2, g3, g4, g5, g6, g7, g8, g9, g10⟩ := hcell2 k hlt
      have d0 := (hbw.cell (p := ⟨b, o + k * 11, none⟩) hbl).trans c0
      have h0 := (hbw.cell (p := ⟨b2, o2 + k * 11, none⟩) hbl2).trans g0
      have d1 := (hbw.cell (p := ⟨b, o + k * 11 + 1, none⟩) hbl).trans c1
      have h1 := (hbw.cell (p := ⟨b2, o2 + k * 11 + 1, none⟩) hbl2).trans g1
      have d2 := (hbw.cell (p := ⟨b, o + k * 11 + 2, none⟩) hbl).trans c2
      have h2 := (hbw.cell (p := ⟨b2, o2 + k * 11 + 2, none⟩) hbl2).trans g2
      have d3 := (hbw.cell (p := ⟨b, o + k * 11 + 3, none⟩) hbl).trans c3
      have h3 := (hbw.cell (p := ⟨b2, o2 + k * 11 + 3, none⟩) hbl2).trans g3
      have d4 := (hbw.cell (p := ⟨b, o + k * 11 + 4, none⟩) hbl).trans c4
      have h4 := (hbw.cell (p := ⟨b2, o2 + k * 11 + 4, none⟩) hbl2).trans g4
      have d5 := (hbw.cell (p := ⟨b, o + k * 11 + 5, none⟩) hbl).trans c5
      have h5 := (hbw.cell (p := ⟨b2, o2 + k * 11 + 5, none⟩) hbl2).trans g5
      have d6 := (hbw.cell (p := ⟨b, o + k * 11 + 6, none⟩) hbl).trans c6
      have h6 := (hbw.cell (p := ⟨b2, o2 + k * 11 + 6, none⟩) hbl2).trans g6
      have d7 := (hbw.cell (p := ⟨b, o + k * 11 + 7, none⟩) hbl).trans c7
      have h7 := (hbw.cell (p := ⟨b2, o2 + k * 11 + 7, none⟩) hbl2).trans g7
      have d8 := (hbw.cell (p := ⟨b, o + k * 11 + 8, none⟩) hbl).trans c8
      have h8 := (hbw.cell (p := ⟨b2, o2 + k * 11 + 8, none⟩) hbl2).trans g8
      have d9 := (hbw.cell (p := ⟨b, o + k * 11 + 9, none⟩) hbl).trans c9
      have h9 := (hbw.cell (p := ⟨b2, o2 + k * 11 + 9, none⟩) hbl2).trans g9
      have d10 := (hbw.cell (p := ⟨b, o + k * 11 + 10, none⟩) hbl).trans c10
      have h10 := (hbw.cell (p := ⟨b2, o2 + k * 11 + 10, none⟩) hbl2).trans g10
      have hlt' : (k : Int) < (ps.length : Int) := by omega
      have hge : (0 : Int) ≤ (k : Int) := by omega
      have hz := hbw.size
      have LX := hideIt (fun w1 => eqInode_same ps[k] w1)
      clear hcell hcell2 hc hc2 c0 g0 c1 g1 c2 g2 c3 g3 c4 g4 c5 g5 c6 g6 c7 g7 c8 g8 c9 g9 c10 g10
      go_wp2_with fail
      go_region_with (go_at_call 35; refine (LX.out _).mono ?_; rintro e w1 ⟨rfl, hb1⟩)
      all_goals
        go_wp2
        go_roundw
        case rel => exact ⟨k + 1, by omega, by go_num, hbw.trans (Below.mono (Below.trans ((Below.refl _ _).drew) ‹_›) hz)⟩
        case measure => simp [intOf]; omega
    · go_wp2
      go_ret
      exact ⟨rfl, hbw⟩
end Go.Proofs.YtfcjhhiekjbbiaaDoor
