/- Several texts laid together: ImG, ImI. -/
import Derived.Test.YtcilodgoognmnaaGreatDoorZAI
import Derived.Deep.RegionWith
import Derived.Test.YtcilodgoognmnaaGreatDoorZAH
namespace Go.Proofs.YtcilodgoognmnaaGreatDoor
open Go.RowKit

set_option maxHeartbeats 4000000 in
theorem eqDirentS_same (va vb : Value) (ps : List Den) (w : World) (ha : RdD w va ps) (hb : RdD w vb ps) (hn : ps.length ≤ 2147483648) :
    Calls Tryz.prog 71 #[va, vb] w fun e w' => e = .returned (.bool true) ∧ Below w.heap.size w w' := by
  obtain ⟨ao, cap, rfl, hcap, hc⟩ := ha.shape
  obtain ⟨ao2, cap2, rfl, hcap2, hc2⟩ := hb.shape
  clear ha hb
  go_enter Tryz.func71, Tryz.ntmps71
  go_wp2
  go_loopw [5] (fun i wr => ∃ k : Nat, k ≤ ps.length ∧ i = .int .i64 k ∧ Below w.heap.size w wr) (fun i _ => ps.length - (intOf i).toNat)
  case atStart => exact ⟨0, by omega, rfl, Below.refl _ _⟩
  case round =>
    obtain ⟨k, hk, rfl, hbw⟩ := hrel
    by_cases hlt : k < ps.length
    · obtain ⟨b, o, rfl, hbl, hcell⟩ := hc (by omega)
      obtain ⟨b2, o2, rfl, hbl2, hcell2⟩ := hc2 (by omega)
      obtain ⟨c0, c1, c2⟩ := hcell k hlt
      obtain ⟨c3, c4, c5⟩ := hcell2 k hlt
      have d0 := (hbw.cell (p := ⟨b, o + k * 3, none⟩) hbl).trans c0
      have d1 := (hbw.cell (p := ⟨b, o + k * 3 + 1, none⟩) hbl).trans c1
      have d2 := (hbw.cell (p := ⟨b, o + k * 3 + 2, none⟩) hbl).trans c2
      have d3 := (hbw.cell (p := ⟨b2, o2 + k * 3, none⟩) hbl2).trans c3
      have d4 := (hbw.cell (p := ⟨b2, o2 + k * 3 + 1, none⟩) hbl2).trans c4
      have d5 := (hbw.cell (p := ⟨b2, o2 + k * 3 + 2, none⟩) hbl2).trans c5
      have hlt' : (k : Int) < (ps.length : Int) := by omega
      have hge : (0 : Int) ≤ (k : Int) := by omega
      have hz := hbw.size
      clear hcell hcell2 hc hc2 c0 c1 c2 c3 c4 c5
      go_wp2_with fail
      go_region_with (go_at_call 133; refine (eqDen_same _ _ _ _).mono ?_; rintro e w1 ⟨rfl, hb1⟩)
      all_goals
        go_wp2
        go_roundw
        case rel => exact ⟨k + 1, by omega, by go_num, hbw.trans (Below.mono (Below.trans ((Below.refl _ _).drew) ‹_›) hz)⟩
        case measure => simp [intOf]; omega
    · go_wp2
      go_ret
      exact ⟨rfl, hbw⟩

/-- The room that is left behind the names of the first entries; -1 if there is too little. -/
def roomD (ps : List Den) : Nat → Int → Int
  | 0, left => if left < ps.length then -1 else left - ps.length
  | k + 1, left => if roomD ps k left < 0 then -1 else if roomD ps k left < ((ps[k]?.map (fun x => x.name.size)).getD 0 : Nat) then -1 else roomD ps k left - ((ps[k]?.map (fun x => x.name.size)).getD 0 : Nat)
theorem roomD_le (ps : List Den) (left : Int) (h : 0 ≤ left) : ∀ k, -1 ≤ roomD ps k left ∧ roomD ps k left ≤ left
  | 0 => by unfold roomD; split <;> omega
  | k + 1 => by
    have := roomD_le ps left h k
    unfold roomD
    split
    · omega
    · split <;> omega
theorem roomD_neg (ps : List Den) (left : Int) (h : 0 ≤ left) (k : Nat) (hk : roomD ps k left < 0) : ∀ j, roomD ps (k + j) left = -1
  | 0 => by have := roomD_le ps left h k; simp only [Nat.add_zero]; omega
  | j + 1 => by
    have := roomD_neg ps left h k hk j
    rw [← Nat.add_assoc, roomD, if_pos (by omega)]

set_option maxRecDepth 100000 in
set_option maxHeartbeats 4000000 in
theorem szDirentS_any (v : Value) (ps : List Den) (left : Int) (w : World) (h : RdD w v ps) (hn : ps.length ≤ maxLen) (hs : ∀ k (h : k < ps.length), ps[k].name.size ≤ maxLen) (h0 : 0 ≤ left) (h1 : left ≤ 1048576) :
    Calls Tryz.prog 63 #[v, .int .i64 left] w fun e w' => e = .returned (.int .i64 (roomD ps ps.length left)) ∧ Below w.heap.size w w' := by
  obtain ⟨ao, cap, rfl, hcap, hc⟩ := h.shape
  clear h
  have hn' : ps.length ≤ 9223372036854775807 := by unfold maxLen at hn; omega
  have RN := hideIt (roomD_neg ps left h0)
  have RL := hideIt (roomD_le ps left h0)
  have HS := hideIt hs
  clear hs hn
  by_cases c : left < ps.length
  · have E := hideIt (show roomD ps ps.length left = -1 by have := RN.out 0 (by unfold roomD; rw [if_pos c]; omega) ps.length; rwa [Nat.zero_add] at this)
    rw [E.out]
    have c' : left - (ps.length : Int) < 0 := by omega
    go_enter Tryz.func63, Tryz.ntmps63
    go_wp2
    go_ret
    exact ⟨rfl, Below.refl _ _⟩
  · have c' : ¬ left - (ps.length : Int) < 0 := by omega
    have E0 := hideIt (show roomD ps 0 left = left - ps.length by unfold roomD; rw [if_neg c])
    go_enter Tryz.func63, Tryz.ntmps63
    go_wp2
    go_loopw [1, 5] (fun l i wr => ∃ k : Nat, k ≤ ps.length ∧ i = .int .i64 k ∧ l = .int .i64 (roomD ps k left) ∧ Hid (0 ≤ roomD ps k left ∧ Below w.heap.size w wr)) (fun _ i _ => ps.length - (intOf i).toNat)
    case atStart => exact ⟨0, by omega, rfl, by rw [E0.out], by rw [E0.out]; omega, Below.refl _ _⟩
    case round =>
      obtain ⟨k, hk, rfl, rfl, J⟩ := hrel
      by_cases hlt : k < ps.length
      · obtain ⟨b, o, rfl, hbl, hcell⟩ := hc (by omega)
        obtain ⟨c0, c1, c2⟩ := hcell k hlt
        have d0 := (J.out.2.cell (p := ⟨b, o + k * 3, none⟩) hbl).trans c0
        have d1 := (J.out.2.cell (p := ⟨b, o + k * 3 + 1, none⟩) hbl).trans c1
        have d2 := (J.out.2.cell (p := ⟨b, o + k * 3 + 2, none⟩) hbl).trans c2
        have hlt' : (k : Int) < (ps.length : Int) := by omega
        have hge : (0 : Int) ≤ (k : Int) := by omega
        have SU := hideIt (show roomD ps (k + 1) left = if roomD ps k left < ps[k].name.size then -1 else roomD ps k left - ps[k].name.size by
          have e : (ps[k]?.map (fun x => x.name.size)).getD 0 = ps[k].name.size := by rw [List.getElem?_eq_getElem hlt]; rfl
          rw [roomD, if_neg (by have := J.out.1; omega), e])
        have LS := hideIt (fun w1 => szDirent_any ps[k] (roomD ps k left) w1 (HS.out k hlt) J.out.1 (by have := RL.out k; omega))
        rw [← SU.out] at LS
        have r0 := (RL.out (k + 1)).1
        have r1 := (RL.out (k + 1)).2
        have EN := hideIt (fun e => show roomD ps ps.length left = -1 by
          have := RN.out (k + 1) e (ps.length - (k + 1))
          rwa [show k + 1 + (ps.length - (k + 1)) = ps.length by omega] at this)
        clear hcell hc c0 c1 c2 SU RN RL HS E0
        go_wp2_with fail
        refine (LS.out _).mono ?_
        rintro e w1 ⟨rfl, hb1⟩
        have B1 := hideIt (below_trans J.out.2 hb1 J.out.2.size)
        clear hb1 d0 d1 d2
        by_cases q : roomD ps (k + 1) left < 0
        · have E := hideIt (EN.out q)
          go_wp2
          go_ret
          exact ⟨ret_int E.out.symm, B1.out⟩
        · have q' : 0 ≤ roomD ps (k + 1) left := by omega
          go_wp2
          go_roundw
          case rel => exact ⟨k + 1, by omega, by go_num, rfl, q', B1.out⟩
          case measure => simp [intOf]; omega
      · obtain rfl : k = ps.length := by omega
        go_wp2
        go_ret
        exact ⟨rfl, J.out.2⟩
end Go.Proofs.YtcilodgoognmnaaGreatDoor

namespace Go.Proofs.YtcilodgoognmnaaGreatDoor
open Go.RowKit

set_option maxRecDepth 100000 in
set_option maxHeartbeats 4000000 in
theorem eqIntA8_same (m0 m1 m2 m3 m4 m5 m6 m7 : Int) (w : World) : Calls Tryz.prog 185 #[.agg #[.int .i64 m0, .int .i64 m1, .int .i64 m2, .int .i64 m3, .int .i64 m4, .int .i64 m5, .int .i64 m6, .int .i64 m7], .agg #[.int .i64 m0, .int .i64 m1, .int .i64 m2, .int .i64 m3, .int .i64 m4, .int .i64 m5, .int .i64 m6, .int .i64 m7]] w fun e w' => e = .returned (.bool true) ∧ Below w.heap.size w w' := by
  obtain ⟨zs, hzs⟩ : ∃ zs : List Value, zs = [.int .i64 m0, .int .i64 m1, .int .i64 m2, .int .i64 m3, .int .i64 m4, .int .i64 m5, .int .i64 m6, .int .i64 m7] := ⟨_, rfl⟩
  have hl : zs.length = 8 := by rw [hzs]; rfl
  have HI := hideIt (show ∀ k (h : k < zs.length), ∃ z : Int, zs[k] = .int .i64 z by
    rw [hzs]
    intro k h
    rcases (show k = 0 ∨ k = 1 ∨ k = 2 ∨ k = 3 ∨ k = 4 ∨ k = 5 ∨ k = 6 ∨ k = 7 by simp at h; omega) with rfl | rfl | rfl | rfl | rfl | rfl | rfl | rfl <;> exact ⟨_, rfl⟩)
  have ha : (.agg #[.int .i64 m0, .int .i64 m1, .int .i64 m2, .int .i64 m3, .int .i64 m4, .int .i64 m5, .int .i64 m6, .int .i64 m7] : Value) = .agg zs.toArray := by rw [hzs]
  rw [ha]
  clear ha hzs
  obtain ⟨W, hW⟩ : ∃ W, W = (w.alloc (.cells zs.toArray 95)).alloc (.cells zs.toArray 95) := ⟨_, rfl⟩
  have CA : Hid (∀ w', Below W.heap.size W w' → ∀ j, w'.cell? ⟨w.heap.size, j, none⟩ = zs[j]? ∧ w'.cell? ⟨w.heap.size + 1, j, none⟩ = zs[j]?) := fun w' hb j => by
    have h1 : w'.heap[w.heap.size]? = some (.cells zs.toArray 95 (0, 0)) := (hb.block _ (by rw [hW]; simp; omega)).trans (by rw [hW]; exact at_old (at_new rfl))
    have h2 : w'.heap[w.heap.size + 1]? = some (.cells zs.toArray 95 (0, 0)) := (hb.block _ (by rw [hW]; simp)).trans (by rw [hW]; exact at_new (by simp))
    exact ⟨(eight_at (xs := zs) h1 j).1, (eight_at (xs := zs) h2 j).1⟩
  have BW : Hid (Below w.heap.size w W) := by
    show Below _ _ _
    rw [hW]
    repeat (refine Below.alloc ?_ (by simp <;> omega) _)
    exact Below.refl _ _
  go_enter Tryz.func185, Tryz.ntmps185
  go_wp2
  rw [← hW]
  clear hW
  go_loopw [5] (fun i wr => ∃ k : Nat, k ≤ 8 ∧ i = .int .i64 k ∧ Hid (Below W.heap.size W wr)) (fun i _ => 8 - (intOf i).toNat)
  case atStart => exact ⟨0, by omega, rfl, Below.refl _ _⟩
  case round =>
    obtain ⟨k, hk, rfl, J⟩ := hrel
    by_cases hlt : k < 8
    · obtain ⟨z, hz⟩ := HI.out k (by omega)
      obtain ⟨d0, d1⟩ := CA.out wr J.out k
      rw [List.getElem?_eq_getElem (by omega), hz] at d0 d1
      have k0 : (0 : Int) ≤ (k : Int) := by omega
      have k1 : (k : Int) < 8 := by omega
      have J1 := hideIt J.out.drew
      clear CA HI hz hl
      go_wp2_with fail
      go_region_with fail
      all_goals
        go_wp2
        go_roundw
        case rel => exact ⟨k + 1, by omega, by go_num, J1⟩
        case measure => simp [intOf]; omega
    · obtain rfl : k = 8 := by omega
      go_wp2
      go_ret
      exact ⟨rfl, below_trans BW.out J.out BW.out.size⟩

set_option maxRecDepth 100000 in
set_option maxHeartbeats 4000000 in
theorem eqInode_same (x : Ino) (w : World) : Calls Tryz.prog 132 #[x.v, x.v] w fun e w' => e = .returned (.bool true) ∧ Below w.heap.size w w' := by
  unfold Ino.v
  go_enter Tryz.func132, Tryz.ntmps132
  go_wp2_with fail
  refine (eqIntA8_same _ _ _ _ _ _ _ _ _).mono ?_
  rintro e w1 ⟨rfl, hb1⟩
  have B1 : Hid (Below w.heap.size w w1) := by
    refine Below.trans ?_ (hb1.mono (by simp <;> omega))
    repeat (refine Below.alloc ?_ (by simp <;> omega) _)
    exact Below.refl _ _
  clear hb1
  go_wp2
  go_ret
  exact ⟨rfl, B1.out⟩

set_option maxRecDepth 100000 in
set_option maxHeartbeats 4000000 in
theorem eqInodeS_same (va vb : Value) (ps : List Ino) (w : World) (ha : RdN w va ps) (hb : RdN w vb ps) (hn : ps.length ≤ 2147483648) :
    Calls Tryz.prog 70 #[va, vb] w fun e w' => e = .returned (.bool true) ∧ Below w.heap.size w w' := by
  obtain ⟨ao, cap, rfl, hcap, hc⟩ := ha.shape
  obtain ⟨ao2, cap2, rfl, hcap2, hc2⟩ := hb.shape
  clear ha hb
  go_enter Tryz.func70, Tryz.ntmps70
  go_wp2
  go_loopw [5] (fun i wr => ∃ k : Nat, k ≤ ps.length ∧ i = .int .i64 k ∧ Below w.heap.size w wr) (fun i _ => ps.length - (intOf i).toNat)
  case atStart => exact ⟨0, by omega, rfl, Below.refl _ _⟩
  case round =>
    obtain ⟨k, hk, rfl, hbw⟩ := hrel
    by_cases hlt : k < ps.length
    · obtain ⟨b, o, rfl, hbl, hcell⟩ := hc (by omega)
      obtain ⟨b2, o2, rfl, hbl2, hcell2⟩ := hc2 (by omega)
      obtain ⟨c0, c1, c2, c3, c4, c5, c6, c7, c8, c9, c10⟩ := hcell k hlt
      obtain ⟨g0, g1, g2, g3, g4, g5, g6, g7, g8, g9, g10⟩ := hcell2 k hlt
      have d0 := (hbw.cell (p := ⟨b, o + k * 11, none⟩) hbl).trans c0
      have h0 := (hbw.cell (p := ⟨b2, o2 + k * 11, none⟩) hbl2).trans g0
      have d1 := (hbw.cell (p := ⟨b, o + k * 11 + 1, none⟩) hbl).trans c1
      have h1 := (hbw.cell (p := ⟨b2, o2 + k * 11 + 1, none⟩) hbl2).trans g1
      have d2 := (hbw.cell (p := ⟨b, o + k * 11 + 2, none⟩) hbl).trans c2
      have h2 := (hbw.cell (p := ⟨b2, o2 + k * 11 + 2, none⟩) hbl2).trans g2
      have d3 := (hbw.cell (p := ⟨b, o + k * 11 + 3, none⟩) hbl).trans c3
      have h3 := (hbw.cell (p := ⟨b2, o2 + k * 11 + 3, none⟩) hbl2).trans g3
      have d4 := (hbw.cell (p := ⟨b, o + k * 11 + 4, none⟩) hbl).trans c4
      have h4 := (hbw.cell (p := ⟨b2, o2 + k * 11 + 4, none⟩) hbl2).trans g4
      have d5 := (hbw.cell (p := ⟨b, o + k * 11 + 5, none⟩) hbl).trans c5
      have h5 := (hbw.cell (p := ⟨b2, o2 + k * 11 + 5, none⟩) hbl2).trans g5
      have d6 := (hbw.cell (p := ⟨b, o + k * 11 + 6, none⟩) hbl).trans c6
      have h6 := (hbw.cell (p := ⟨b2, o2 + k * 11 + 6, none⟩) hbl2).trans g6
      have d7 := (hbw.cell (p := ⟨b, o + k * 11 + 7, none⟩) hbl).trans c7
      have h7 := (hbw.cell (p := ⟨b2, o2 + k * 11 + 7, none⟩) hbl2).trans g7
      have d8 := (hbw.cell (p := ⟨b, o + k * 11 + 8, none⟩) hbl).trans c8
      have h8 := (hbw.cell (p := ⟨b2, o2 + k * 11 + 8, none⟩) hbl2).trans g8
      have d9 := (hbw.cell (p := ⟨b, o + k * 11 + 9, none⟩) hbl).trans c9
      have h9 := (hbw.cell (p := ⟨b2, o2 + k * 11 + 9, none⟩) hbl2).trans g9
      have d10 := (hbw.cell (p := ⟨b, o + k * 11 + 10, none⟩) hbl).trans c10
      have h10 := (hbw.cell (p := ⟨b2, o2 + k * 11 + 10, none⟩) hbl2).trans g10
      have hlt' : (k : Int) < (ps.length : Int) := by omega
      have hge : (0 : Int) ≤ (k : Int) := by omega
      have hz := hbw.size
      have LX := hideIt (fun w1 => eqInode_same ps[k] w1)
      clear hcell hcell2 hc hc2 c0 g0 c1 g1 c2 g2 c3 g3 c4 g4 c5 g5 c6 g6 c7 g7 c8 g8 c9 g9 c10 g10
      go_wp2_with fail
      go_region_with (go_at_call 132; refine (LX.out _).mono ?_; rintro e w1 ⟨rfl, hb1⟩)
      all_goals
        go_wp2
        go_roundw
        case rel => exact ⟨k + 1, by omega, by go_num, hbw.trans (Below.mono (Below.trans ((Below.refl _ _).drew) ‹_›) hz)⟩
        case measure => simp [intOf]; omega
    · go_wp2
      go_ret
      exact ⟨rfl, hbw⟩
end Go.Proofs.YtcilodgoognmnaaGreatDoor
