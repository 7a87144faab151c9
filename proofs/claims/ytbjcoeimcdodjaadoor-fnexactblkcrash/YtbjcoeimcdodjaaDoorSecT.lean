/- The helpers of the laws over slices of writes: held against one another, marked, looked at. -/
import Derived.Test.YtbjcoeimcdodjaaDoorSecS
import Derived.Deep.RegionWith
namespace Go.Proofs.YtbjcoeimcdodjaaDoor
open Go.RowKit
set_option maxHeartbeats 2000000 in
theorem eqSectorS_same (va vb : Value) (ps : List Se) (w : World) (ha : RdE w va ps) (hb : RdE w vb ps) (hn : ps.length ≤ 2147483648) :
    Calls Tryd.prog 46 #[va, vb] w fun e w' => e = .returned (.bool true) ∧ Below w.heap.size w w' := by
  obtain ⟨ao, cap, rfl, hcap, hc⟩ := ha.shape
  obtain ⟨ao2, cap2, rfl, hcap2, hc2⟩ := hb.shape
  clear ha hb
  go_enter Tryd.func46, Tryd.ntmps46
  go_wp2
  go_loopw [5] (fun i wr => ∃ k : Nat, k ≤ ps.length ∧ i = .int .i64 k ∧ Below w.heap.size w wr) (fun i _ => ps.length - (intOf i).toNat)
  case atStart => exact ⟨0, by omega, rfl, Below.refl _ _⟩
  case round =>
    obtain ⟨k, hk, rfl, hbw⟩ := hrel
    by_cases hlt : k < ps.length
    · obtain ⟨b, o, rfl, hbl, hcell⟩ := hc (by omega)
      obtain ⟨b2, o2, rfl, hbl2, hcell2⟩ := hc2 (by omega)
      obtain ⟨c0, c1⟩ := hcell k hlt
      obtain ⟨c3, c4⟩ := hcell2 k hlt
      have d0 := (hbw.cell (p := ⟨b, o + k * 2, none⟩) hbl).trans c0
      have d1 := (hbw.cell (p := ⟨b, o + k * 2 + 1, none⟩) hbl).trans c1
      have d3 := (hbw.cell (p := ⟨b2, o2 + k * 2, none⟩) hbl2).trans c3
      have d4 := (hbw.cell (p := ⟨b2, o2 + k * 2 + 1, none⟩) hbl2).trans c4
      have hlt' : (k : Int) < (ps.length : Int) := by omega
      have hge : (0 : Int) ≤ (k : Int) := by omega
      have hz := hbw.size
      clear hcell hcell2 hc hc2 c0 c1 c3 c4
      go_wp2_with fail
      go_region_with (go_at_call 61; refine (eqSector_same _ _ _).mono ?_; rintro e w1 ⟨rfl, hb1⟩)
      all_goals
        go_wp2
        go_roundw
        case rel => exact ⟨k + 1, by omega, by go_num, hbw.trans (Below.mono (Below.trans ((Below.refl _ _).drew) ‹_›) hz)⟩
        case measure => simp [intOf]; omega
    · go_wp2
      go_ret
      exact ⟨rfl, hbw⟩
def markE (k : Int) (i : Nat) : Se := ⟨k + 2 * (i : Int), k + 2 * (i : Int) + 1⟩
def marksE (k : Int) (n : Nat) : List Se := (List.range n).map (markE k)
theorem marksE_len (k : Int) (n : Nat) : (marksE k n).length = n := by simp [marksE]
theorem marksE_at (k : Int) (n i : Nat) (h : i < (marksE k n).length) : (marksE k n)[i] = markE k i := by simp [marksE]
def IsSes (xs : List Value) (n : Nat) : Prop := ∀ k, k < n → ∃ a b, xs[k * 2]? = some (.int .i64 a) ∧ xs[k * 2 + 1]? = some (.int .i64 b)
theorem isSes (ps : List Se) : IsSes (ses ps) ps.length := fun k hk => ⟨_, _, ses_at0 ps k hk, ses_at1 ps k hk⟩
theorem IsSes.put2 {ys : List Value} {n : Nat} (h : IsSes ys n) (hl : ys.length = n * 2) (k : Nat) (a b : Int) : IsSes (put2 ys k (.int .i64 a) (.int .i64 b)) n := by
  intro j hj
  rw [put2_at (by omega), put2_at (by omega)]
  by_cases e : j = k
  · subst e
    exact ⟨a, b, by simp, by simp⟩
  · obtain ⟨x, y, h0, h1⟩ := h j hj
    refine ⟨x, y, ?_, ?_⟩
    · rw [if_neg (by omega), if_neg (by omega)]; exact h0
    · rw [if_neg (by omega), if_neg (by omega)]; exact h1
set_option maxHeartbeats 2000000 in
theorem markSectorS_any (v : Value) (n : Nat) (xs : List Value) (k0 : Int) (lo hi : Nat) (w : World) (h : Row w 59 2 lo hi v n xs) (hx : IsSes xs n) (hn : n ≤ 2147483648) (h0 : 0 ≤ k0) (h1 : k0 ≤ 1099511627776) :
    Calls Tryd.prog 47 #[v, .int .i64 k0] w fun e w' => e = .returned (.int .i64 (k0 + 2 * n)) ∧ Row w' 59 2 lo hi v n (ses (marksE k0 n)) ∧ w.grownBy w' v.ownBlock ∧ w'.heap.size = w.heap.size := by
  obtain ⟨hlen, ao, cap, rfl, hcap, hc⟩ := h.rd
  go_enter Tryd.func47, Tryd.ntmps47
  go_wp2
  go_loopw [1, 5] (fun c i wr => ∃ k : Nat, k ≤ n ∧ i = .int .i64 k ∧ c = .int .i64 (k0 + 2 * k) ∧ (∃ ys : List Value, Row wr 59 2 lo hi (.slice ao n cap) n ys ∧ IsSes ys n ∧ ∀ j, j < k * 2 → ys[j]? = (ses (marksE k0 n))[j]?) ∧ w.grownBy wr (Value.slice ao n cap).ownBlock ∧ wr.heap.size = w.heap.size) (fun _ i _ => n - (intOf i).toNat)
  case atStart => exact ⟨0, by omega, rfl, by simp, ⟨xs, h, hx, fun j hj => absurd hj (by omega)⟩, World.grownBy.refl _ _, rfl⟩
  case round =>
    obtain ⟨k, hk, rfl, rfl, ⟨ys, hrow, hys, hd⟩, hout, hz⟩ := hrel
    clear h hx hc hlen
    by_cases hlt : k < n
    · obtain ⟨hlen, ao', cap', e', _, hc⟩ := hrow.rd
      cases e'
      obtain ⟨b, o, rfl, hbl, _⟩ := hc (by omega)
      obtain ⟨rfl, hb1, hb2, _, hfr, hcl⟩ := hrow.at
      obtain ⟨x, y, q0, q1⟩ := hys k hlt
      have f0 := hfr (k * 2)
      have f1 := hfr (k * 2 + 1)
      have e0 := (hcl (k * 2) (by omega)).trans q0
      have e1 := (hcl (k * 2 + 1) (by omega)).trans q1
      have PH := hideIt (hrow.put2 k (.int .i64 (k0 + 2 * k)) (.int .i64 (k0 + 2 * k + 1)))
      have OH := hideIt (grown_setCell (grown_setCell hout (a := ⟨b, k * 2, none⟩) rfl (.int .i64 (k0 + 2 * k))) (a := ⟨b, k * 2 + 1, none⟩) rfl (.int .i64 (k0 + 2 * k + 1)))
      have IH := hideIt (hys.put2 hlen k (k0 + 2 * k) (k0 + 2 * k + 1))
      have DH : Hid (∀ j, j < (k + 1) * 2 → (put2 ys k (.int .i64 (k0 + 2 * k)) (.int .i64 (k0 + 2 * k + 1)))[j]? = (ses (marksE k0 n))[j]?) := by
        have hk' : k < (marksE k0 n).length := by rw [marksE_len]; exact hlt
        have := put2_step (ps := marksE k0 n) hk' (by rw [marksE_len]; exact hlen) hd
        rw [marksE_at] at this
        exact this
      clear hrow hys hd hc hfr hcl q0 q1
      go_wp2
      go_roundw
      case rel => exact ⟨k + 1, by omega, by go_num, by go_num, ⟨_, PH.out, IH.out, DH.out⟩, OH.out, by simp [hz]⟩
      case measure => simp [intOf]; omega
    · have e : k = n := by omega
      subst e
      have hl := hrow.len
      have RH := hideIt hrow
      have DH := hideIt hd
      clear hrow hys hd
      go_wp2
      go_ret
      have e := ses_all (ps := marksE k0 k) (by rw [marksE_len]; exact hl) (by rw [marksE_len]; exact DH.out)
      exact ⟨rfl, e ▸ RH.out, hout, hz⟩
set_option maxHeartbeats 2000000 in
theorem heldSectorS_any (v : Value) (n : Nat) (k0 : Int) (w : World) (h : RdE w v (marksE k0 n)) (hn : n ≤ 2147483648) (h0 : 0 ≤ k0) (h1 : k0 ≤ 1099511627776) :
    Calls Tryd.prog 49 #[v, .int .i64 k0] w fun e w' => e = .returned (.int .i64 (k0 + 2 * n)) ∧ w' = w := by
  obtain ⟨ao, cap, rfl, hcap, hc⟩ := h.shape
  simp only [marksE_len] at hcap hc ⊢
  clear h
  go_enter Tryd.func49, Tryd.ntmps49
  go_wp2
  go_loop [1, 5] (fun c i => ∃ k : Nat, k ≤ n ∧ i = .int .i64 k ∧ c = .int .i64 (k0 + 2 * k)) (fun _ i => n - (intOf i).toNat)
  case atStart => exact ⟨0, by omega, rfl, by simp⟩
  case round =>
    obtain ⟨k, hk, rfl, rfl⟩ := hrel
    by_cases hlt : k < n
    · obtain ⟨b, o, rfl, hbl, hcell⟩ := hc (by omega)
      obtain ⟨c0, c1⟩ := hcell k hlt
      rw [marksE_at] at c0 c1
      simp only [markE] at c0 c1
      clear hcell hc
      go_wp2
      go_round
      case rel => exact ⟨k + 1, by omega, by go_num, by go_num⟩
      case measure => simp [intOf]; omega
    · have e : k = n := by omega
      subst e
      go_wp2
      go_ret
      exact ⟨rfl, rfl⟩
end Go.Proofs.YtbjcoeimcdodjaaDoor
