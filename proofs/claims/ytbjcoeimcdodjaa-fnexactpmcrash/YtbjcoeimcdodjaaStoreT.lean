/- The helpers of the laws over slices of stores: held against one another, marked, looked at. -/
import Derived.Test.YtbjcoeimcdodjaaStoreS
import Derived.Deep.RegionWith
namespace Go.Proofs.Ytbjcoeimcdodjaa
open Go.RowKit
set_option maxHeartbeats 2000000 in
theorem eqStoreS_same (va vb : Value) (ps : List St) (w : World) (ha : RdS w va ps) (hb : RdS w vb ps) (hn : ps.length ≤ 2147483648) :
    Calls Try.prog 45 #[va, vb] w fun e w' => e = .returned (.bool true) ∧ Below w.heap.size w w' := by
  obtain ⟨ao, cap, rfl, hcap, hc⟩ := ha.shape
  obtain ⟨ao2, cap2, rfl, hcap2, hc2⟩ := hb.shape
  clear ha hb
  go_enter Try.func45, Try.ntmps45
  go_wp2
  go_loopw [5] (fun i wr => ∃ k : Nat, k ≤ ps.length ∧ i = .int .i64 k ∧ Below w.heap.size w wr) (fun i _ => ps.length - (intOf i).toNat)
  case atStart => exact ⟨0, by omega, rfl, Below.refl _ _⟩
  case round =>
    obtain ⟨k, hk, rfl, hbw⟩ := hrel
    by_cases hlt : k < ps.length
    · obtain ⟨b, o, rfl, hbl, hcell⟩ := hc (by omega)
      obtain ⟨b2, o2, rfl, hbl2, hcell2⟩ := hc2 (by omega)
      obtain ⟨c0, c1, c2⟩ := hcell k hlt
      obtain ⟨c3, c4, c5⟩ := hcell2 k hlt
      have d0 := (hbw.cell (p := ⟨b, o + k * 3, none⟩) hbl).trans c0
      have d1 := (hbw.cell (p := ⟨b, o + k * 3 + 1, none⟩) hbl).trans c1
      have d2 := (hbw.cell (p := ⟨b, o + k * 3 + 2, none⟩) hbl).trans c2
      have d3 := (hbw.cell (p := ⟨b2, o2 + k * 3, none⟩) hbl2).trans c3
      have d4 := (hbw.cell (p := ⟨b2, o2 + k * 3 + 1, none⟩) hbl2).trans c4
      have d5 := (hbw.cell (p := ⟨b2, o2 + k * 3 + 2, none⟩) hbl2).trans c5
      have hlt' : (k : Int) < (ps.length : Int) := by omega
      have hge : (0 : Int) ≤ (k : Int) := by omega
      have hz := hbw.size
      clear hcell hcell2 hc hc2 c0 c1 c2 c3 c4 c5
      go_wp2_with fail
      go_region_with (go_at_call 62; refine (eqStore_same _ _ _ _).mono ?_; rintro e w1 ⟨rfl, hb1⟩)
      all_goals
        go_wp2
        go_roundw
        case rel => exact ⟨k + 1, by omega, by go_num, hbw.trans (Below.mono (Below.trans ((Below.refl _ _).drew) ‹_›) hz)⟩
        case measure => simp [intOf]; omega
    · go_wp2
      go_ret
      exact ⟨rfl, hbw⟩
def markS (k : Int) (i : Nat) : St := ⟨k + 3 * (i : Int), k + 3 * (i : Int) + 1, (k + 3 * (i : Int) + 1 + 1) % 3 == 0⟩
def marksS (k : Int) (n : Nat) : List St := (List.range n).map (markS k)
theorem marksS_len (k : Int) (n : Nat) : (marksS k n).length = n := by simp [marksS]
theorem marksS_at (k : Int) (n i : Nat) (h : i < (marksS k n).length) : (marksS k n)[i] = markS k i := by simp [marksS]
def IsSts (xs : List Value) (n : Nat) : Prop := ∀ k, k < n → ∃ a b c, xs[k * 3]? = some (.int .i64 a) ∧ xs[k * 3 + 1]? = some (.int .i64 b) ∧ xs[k * 3 + 2]? = some (.bool c)
theorem isSts (ps : List St) : IsSts (sts ps) ps.length := fun k hk => ⟨_, _, _, sts_at0 ps k hk, sts_at1 ps k hk, sts_at2 ps k hk⟩
theorem IsSts.put3 {ys : List Value} {n : Nat} (h : IsSts ys n) (hl : ys.length = n * 3) (k : Nat) (a b : Int) (c : Bool) : IsSts (put3 ys k (.int .i64 a) (.int .i64 b) (.bool c)) n := by
  intro j hj
  rw [put3_at (by omega), put3_at (by omega), put3_at (by omega)]
  by_cases e : j = k
  · subst e
    exact ⟨a, b, c, by simp, by simp, by simp⟩
  · obtain ⟨x, y, z, h0, h1, h2⟩ := h j hj
    refine ⟨x, y, z, ?_, ?_, ?_⟩
    · rw [if_neg (by omega), if_neg (by omega), if_neg (by omega)]; exact h0
    · rw [if_neg (by omega), if_neg (by omega), if_neg (by omega)]; exact h1
    · rw [if_neg (by omega), if_neg (by omega), if_neg (by omega)]; exact h2
set_option maxHeartbeats 2000000 in
theorem markStoreS_any (v : Value) (n : Nat) (xs : List Value) (k0 : Int) (lo hi : Nat) (w : World) (h : Row w 45 3 lo hi v n xs) (hx : IsSts xs n) (hn : n ≤ 2147483648) (h0 : 0 ≤ k0) (h1 : k0 ≤ 1099511627776) :
    Calls Try.prog 46 #[v, .int .i64 k0] w fun e w' => e = .returned (.int .i64 (k0 + 3 * n)) ∧ Row w' 45 3 lo hi v n (sts (marksS k0 n)) ∧ w.grownBy w' v.ownBlock ∧ w'.heap.size = w.heap.size := by
  obtain ⟨hlen, ao, cap, rfl, hcap, hc⟩ := h.rd
  go_enter Try.func46, Try.ntmps46
  go_wp2
  go_loopw [1, 5] (fun c i wr => ∃ k : Nat, k ≤ n ∧ i = .int .i64 k ∧ c = .int .i64 (k0 + 3 * k) ∧ (∃ ys : List Value, Row wr 45 3 lo hi (.slice ao n cap) n ys ∧ IsSts ys n ∧ ∀ j, j < k * 3 → ys[j]? = (sts (marksS k0 n))[j]?) ∧ w.grownBy wr (Value.slice ao n cap).ownBlock ∧ wr.heap.size = w.heap.size) (fun _ i _ => n - (intOf i).toNat)
  case atStart => exact ⟨0, by omega, rfl, by simp, ⟨xs, h, hx, fun j hj => absurd hj (by omega)⟩, World.grownBy.refl _ _, rfl⟩
  case round =>
    obtain ⟨k, hk, rfl, rfl, ⟨ys, hrow, hys, hd⟩, hout, hz⟩ := hrel
    clear h hx hc hlen
    by_cases hlt : k < n
    · obtain ⟨hlen, ao', cap', e', _, hc⟩ := hrow.rd
      cases e'
      obtain ⟨b, o, rfl, hbl, _⟩ := hc (by omega)
      obtain ⟨rfl, hb1, hb2, _, hfr, hcl⟩ := hrow.at
      obtain ⟨x, y, z, q0, q1, q2⟩ := hys k hlt
      have f0 := hfr (k * 3)
      have f1 := hfr (k * 3 + 1)
      have f2 := hfr (k * 3 + 2)
      have e0 := (hcl (k * 3) (by omega)).trans q0
      have e1 := (hcl (k * 3 + 1) (by omega)).trans q1
      have e2 := (hcl (k * 3 + 2) (by omega)).trans q2
      have PH := hideIt (hrow.put3 k (.int .i64 (k0 + 3 * k)) (.int .i64 (k0 + 3 * k + 1)) (.bool ((k0 + 3 * k + 1 + 1) % 3 == 0)))
      have OH := hideIt (grown_setCell (grown_setCell (grown_setCell hout (a := ⟨b, k * 3, none⟩) rfl (.int .i64 (k0 + 3 * k))) (a := ⟨b, k * 3 + 1, none⟩) rfl (.int .i64 (k0 + 3 * k + 1))) (a := ⟨b, k * 3 + 2, none⟩) rfl (.bool ((k0 + 3 * k + 1 + 1) % 3 == 0)))
      have IH := hideIt (hys.put3 hlen k (k0 + 3 * k) (k0 + 3 * k + 1) ((k0 + 3 * k + 1 + 1) % 3 == 0))
      have DH : Hid (∀ j, j < (k + 1) * 3 → (put3 ys k (.int .i64 (k0 + 3 * k)) (.int .i64 (k0 + 3 * k + 1)) (.bool ((k0 + 3 * k + 1 + 1) % 3 == 0)))[j]? = (sts (marksS k0 n))[j]?) := by
        have hk' : k < (marksS k0 n).length := by rw [marksS_len]; exact hlt
        have := put3_step (ps := marksS k0 n) hk' (by rw [marksS_len]; exact hlen) hd
        rw [marksS_at] at this
        exact this
      clear hrow hys hd hc hfr hcl q0 q1 q2
      go_wp2
      go_roundw
      case rel => exact ⟨k + 1, by omega, by go_num, by go_num, ⟨_, PH.out, IH.out, DH.out⟩, OH.out, by simp [hz]⟩
      case measure => simp [intOf]; omega
    · have e : k = n := by omega
      subst e
      have hl := hrow.len
      have RH := hideIt hrow
      have DH := hideIt hd
      clear hrow hys hd
      go_wp2
      go_ret
      have e := sts_all (ps := marksS k0 k) (by rw [marksS_len]; exact hl) (by rw [marksS_len]; exact DH.out)
      exact ⟨rfl, e ▸ RH.out, hout, hz⟩
set_option maxHeartbeats 2000000 in
theorem heldStoreS_any (v : Value) (n : Nat) (k0 : Int) (w : World) (h : RdS w v (marksS k0 n)) (hn : n ≤ 2147483648) (h0 : 0 ≤ k0) (h1 : k0 ≤ 1099511627776) :
    Calls Try.prog 48 #[v, .int .i64 k0] w fun e w' => e = .returned (.int .i64 (k0 + 3 * n)) ∧ w' = w := by
  obtain ⟨ao, cap, rfl, hcap, hc⟩ := h.shape
  simp only [marksS_len] at hcap hc ⊢
  clear h
  go_enter Try.func48, Try.ntmps48
  go_wp2
  go_loop [1, 5] (fun c i => ∃ k : Nat, k ≤ n ∧ i = .int .i64 k ∧ c = .int .i64 (k0 + 3 * k)) (fun _ i => n - (intOf i).toNat)
  case atStart => exact ⟨0, by omega, rfl, by simp⟩
  case round =>
    obtain ⟨k, hk, rfl, rfl⟩ := hrel
    by_cases hlt : k < n
    · obtain ⟨b, o, rfl, hbl, hcell⟩ := hc (by omega)
      obtain ⟨c0, c1, c2⟩ := hcell k hlt
      rw [marksS_at] at c0 c1 c2
      simp only [markS] at c0 c1 c2
      clear hcell hc
      go_wp2
      go_round
      case rel => exact ⟨k + 1, by omega, by go_num, by go_num⟩
      case measure => simp [intOf]; omega
    · have e : k = n := by omega
      subst e
      go_wp2
      go_ret
      exact ⟨rfl, rfl⟩
end Go.Proofs.Ytbjcoeimcdodjaa
