/- Several texts laid together: ImG, ImJ. -/
import Derived.Test.YtihmihkhkmadmaaDoorImF
import Derived.Deep.RegionWith
import Derived.Test.YtihmihkhkmadmaaDoorZAK
namespace Go.Proofs.YtihmihkhkmadmaaDoor
open Go.RowKit
set_option maxHeartbeats 4000000 in
theorem eqDirentS_same (va vb : Value) (ps : List Den) (w : World) (ha : RdD w va ps) (hb : RdD w vb ps) (hn : ps.length ≤ 2147483648) :
    Calls Tryd.prog 18 #[va, vb] w fun e w' => e = .returned (.bool true) ∧ Below w.heap.size w w' := by
  obtain ⟨ao, cap, rfl, hcap, hc⟩ := ha.shape
  obtain ⟨ao2, cap2, rfl, hcap2, hc2⟩ := hb.shape
  clear ha hb
  go_enter Tryd.func18, Tryd.ntmps18
  go_wp2
  go_loopw [5] (fun i wr => ∃ k : Nat, k ≤ ps.length ∧ i = .int .i64 k ∧ Below w.heap.size w wr) (fun i _ => ps.length - (intOf i).toNat)
  case atStart => exact ⟨0, by omega, rfl, Below.refl _ _⟩
  case round =>
    obtain ⟨k, hk, rfl, hbw⟩ := hrel
    by_cases hlt : k < ps.length
    · obtain ⟨b, o, rfl, hbl, hcell⟩ := hc (by omega)
      obtain ⟨b2, o2, rfl, hbl2, hcell2⟩ := hc2 (by omega)
      obtain ⟨c0, c1, c2⟩ := hcell k hlt
      obtain ⟨c3, c4, c5⟩ := hcell2 k hlt
      have d0 := (hbw.cell (p := ⟨b, o + k * 3, none⟩) hbl).trans c0
      have d1 := (hbw.cell (p := ⟨b, o + k * 3 + 1, none⟩) hbl).trans c1
      have d2 := (hbw.cell (p := ⟨b, o + k * 3 + 2, none⟩) hbl).trans c2
      have d3 := (hbw.cell (p := ⟨b2, o2 + k * 3, none⟩) hbl2).trans c3
      have d4 := (hbw.cell (p := ⟨b2, o2 + k * 3 + 1, none⟩) hbl2).trans c4
      have d5 := (hbw.cell (p := ⟨b2, o2 + k * 3 + 2, none⟩) hbl2).trans c5
      have hlt' : (k : Int) < (ps.length : Int) := by omega
      have hge : (0 : Int) ≤ (k : Int) := by omega
      have hz := hbw.size
      clear hcell hcell2 hc hc2 c0 c1 c2 c3 c4 c5
      go_wp2_with fail
      go_region_with (go_at_call 40; refine (eqDen_same _ _ _ _).mono ?_; rintro e w1 ⟨rfl, hb1⟩)
      all_goals
        go_wp2
        go_roundw
        case rel => exact ⟨k + 1, by omega, by go_num, hbw.trans (Below.mono (Below.trans ((Below.refl _ _).drew) ‹_›) hz)⟩
        case measure => simp [intOf]; omega
    · go_wp2
      go_ret
      exact ⟨rfl, hbw⟩
def roomD (ps : List Den) : Nat → Int → Int
  | 0, left => if left < ps.length then -1 else left - ps.length
  | k + 1, left => if roomD ps k left < 0 then -1 else if roomD ps k left < ((ps[k]?.map (fun x => x.name.size)).getD 0 : Nat) then -1 else roomD ps k left - ((ps[k]?.map (fun x => x.name.size)).getD 0 : Nat)
theorem roomD_le (ps : List Den) (left : Int) (h : 0 ≤ left) : ∀ k, -1 ≤ roomD ps k left ∧ roomD ps k left ≤ left
  | 0 => by unfold roomD; split <;> omega
  | k + 1 => by
    have := roomD_le ps left h k
    unfold roomD
    split
    · omega
    · split <;> omega
theorem roomD_neg (ps : List Den) (left : Int) (h : 0 ≤ left) (k : Nat) (hk : roomD ps k left < 0) : ∀ j, roomD ps (k + j) left = -1
  | 0 => by have := roomD_le ps left h k; simp only [Nat.add_zero]; omega
  | j + 1 => by
    have := roomD_neg ps left h k hk j
    rw [← Nat.add_assoc, roomD, if_pos (by omega)]
set_option maxRecDepth 100000 in
set_option maxHeartbeats 4000000 in
theorem szDirentS_any (v : Value) (ps : List Den) (left : Int) (w : World) (h : RdD w v ps) (hn : ps.length ≤ maxLen) (hs : ∀ k (h : k < ps.length), ps[k].name.size ≤ maxLen) (h0 : 0 ≤ left) (h1 : left ≤ 1048576) :
    Calls Tryd.prog 24 #[v, .int .i64 left] w fun e w' => e = .returned (.int .i64 (roomD ps ps.length left)) ∧ Below w.heap.size w w' := by
  obtain ⟨ao, cap, rfl, hcap, hc⟩ := h.shape
  clear h
  have hn' : ps.length ≤ 9223372036854775807 := by unfold maxLen at hn; omega
  have RN := hideIt (roomD_neg ps left h0)
  have RL := hideIt (roomD_le ps left h0)
  have HS := hideIt hs
  clear hs hn
  by_cases c : left < ps.length
  · have E := hideIt (show roomD ps ps.length left = -1 by have := RN.out 0 (by unfold roomD; rw [if_pos c]; omega) ps.length; rwa [Nat.zero_add] at this)
    rw [E.out]
    have c' : left - (ps.length : Int) < 0 := by omega
    go_enter Tryd.func24, Tryd.ntmps24
    go_wp2
    go_ret
    exact ⟨rfl, Below.refl _ _⟩
  · have c' : ¬ left - (ps.length : Int) < 0 := by omega
    have E0 := hideIt (show roomD ps 0 left = left - ps.length by unfold roomD; rw [if_neg c])
    go_enter Tryd.func24, Tryd.ntmps24
    go_wp2
    go_loopw [1, 5] (fun l i wr => ∃ k : Nat, k ≤ ps.length ∧ i = .int .i64 k ∧ l = .int .i64 (roomD ps k left) ∧ Hid (0 ≤ roomD ps k left ∧ Below w.heap.size w wr)) (fun _ i _ => ps.length - (intOf i).toNat)
    case atStart => exact ⟨0, by omega, rfl, by rw [E0.out], by rw [E0.out]; omega, Below.refl _ _⟩
    case round =>
      obtain ⟨k, hk, rfl, rfl, J⟩ := hrel
      by_cases hlt : k < ps.length
      · obtain ⟨b, o, rfl, hbl, hcell⟩ := hc (by omega)
        obtain ⟨c0, c1, c2⟩ := hcell k hlt
        have d0 := (J.out.2.cell (p := ⟨b, o + k * 3, none⟩) hbl).trans c0
        have d1 := (J.out.2.cell (p := ⟨b, o + k * 3 + 1, none⟩) hbl).trans c1
        have d2 := (J.out.2.cell (p := ⟨b, o + k * 3 + 2, none⟩) hbl).trans c2
        have hlt' : (k : Int) < (ps.length : Int) := by omega
        have hge : (0 : Int) ≤ (k : Int) := by omega
        have SU := hideIt (show roomD ps (k + 1) left = if roomD ps k left < ps[k].name.size then -1 else roomD ps k left - ps[k].name.size by
          have e : (ps[k]?.map (fun x => x.name.size)).getD 0 = ps[k].name.size := by rw [List.getElem?_eq_getElem hlt]; rfl
          rw [roomD, if_neg (by have := J.out.1; omega), e])
        have LS := hideIt (fun w1 => szDirent_any ps[k] (roomD ps k left) w1 (HS.out k hlt) J.out.1 (by have := RL.out k; omega))
        rw [← SU.out] at LS
        have r0 := (RL.out (k + 1)).1
        have r1 := (RL.out (k + 1)).2
        have EN := hideIt (fun e => show roomD ps ps.length left = -1 by
          have := RN.out (k + 1) e (ps.length - (k + 1))
          rwa [show k + 1 + (ps.length - (k + 1)) = ps.length by omega] at this)
        clear hcell hc c0 c1 c2 SU RN RL HS E0
        go_wp2_with fail
        refine (LS.out _).mono ?_
        rintro e w1 ⟨rfl, hb1⟩
        have B1 := hideIt (below_trans J.out.2 hb1 J.out.2.size)
        clear hb1 d0 d1 d2
        by_cases q : roomD ps (k + 1) left < 0
        · have E := hideIt (EN.out q)
          go_wp2
          go_ret
          exact ⟨ret_int E.out.symm, B1.out⟩
        · have q' : 0 ≤ roomD ps (k + 1) left := by omega
          go_wp2
          go_roundw
          case rel => exact ⟨k + 1, by omega, by go_num, rfl, q', B1.out⟩
          case measure => simp [intOf]; omega
      · obtain rfl : k = ps.length := by omega
        go_wp2
        go_ret
        exact ⟨rfl, J.out.2⟩
end Go.Proofs.YtihmihkhkmadmaaDoor

namespace Go.Proofs.YtihmihkhkmadmaaDoor
open Go.RowKit
def RdIm (w : World) (v : Value) (ws : List Ino) (ps : List Den) : Prop := ∃ vW vP, v = .agg #[vW, vP] ∧ RdN w vW ws ∧ RdD w vP ps
theorem RdIm.below {w w' : World} {v : Value} {ws : List Ino} {ps : List Den} (h : RdIm w v ws ps) (hb : Below w.heap.size w w') : RdIm w' v ws ps := by
  obtain ⟨vW, vP, rfl, h1, h2⟩ := h
  exact ⟨vW, vP, rfl, Rd.below h1 hb, Rd.below h2 hb⟩
end Go.Proofs.YtihmihkhkmadmaaDoor
