/- The helpers of the laws over slices of numbers: copied, held against one another, marked, looked at. -/
import Derived.Test.YtbjcoeimcdodjaaDoorMem
import Derived.Deep.OwnRows
import Derived.Deep.QuietTactic
import Derived.BigQuiet
namespace Go.Proofs.YtbjcoeimcdodjaaDoor
open Go.RowKit
theorem info3 : (Tryd.prog.info? 3).map (fun i => (i.zero, i.size, i.bytes)) = some (some (.int .i64 0), 1, 8) := by kernel_rfl
theorem row_of_rowIs {w : World} {g : Nat} {zs : List Int} {f : Nat → Value} {lo hi : Nat} (h : w.rowIs g 3 zs.length f) (hf : ∀ i (h : i < zs.length), f i = .int .i64 zs[i]) (h1 : lo ≤ g) (h2 : g < hi) (hm : zs.length ≤ maxLen) :
    Row w 3 1 lo hi (.slice (some ⟨g, 0, none⟩) zs.length zs.length) zs.length (ints zs) := by
  obtain ⟨c, hb, hn, hc⟩ := h
  refine ⟨⟨by simp [ints], .inr ⟨g, zs.length, c, rfl, h1, hb, Nat.le_refl _, hm, by omega, ?_⟩⟩, fun k hk => by cases hk; exact h2⟩
  apply List.ext_getElem?
  intro i
  by_cases hi : i < zs.length
  · rw [List.getElem?_take, if_pos (by omega), ints_at zs i hi, Array.getElem?_toList, hc i hi, hf i hi]
  · rw [List.getElem?_eq_none (by simp; omega), List.getElem?_eq_none (by simp [ints]; omega)]
set_option maxHeartbeats 1000000 in
theorem toIntS_any (v : Value) (zs : List Int) (w : World) (h : RdI w v zs) (hn : zs.length ≤ 1048576) :
    Calls Tryd.prog 21 #[v] w fun e w' => ∃ v', e = .returned v' ∧ Row w' 3 1 w.heap.size w'.heap.size v' zs.length (ints zs) ∧ Below w.heap.size w w' := by
  obtain ⟨ao, cap, rfl, hcap, hc⟩ := h.shape
  have hmk := run_make_row' (P := Tryd.prog) 23 3 (.int .i64 0) 8 Tryd.underlying23 info3 rfl .i64 .i64 zs.length (by omega) (by omega)
  go_enter Tryd.func21, Tryd.ntmps21
  go_wp2
  go_loopw [4] (fun i wr => ∃ k : Nat, k ≤ zs.length ∧ i = .int .i64 k ∧ wr.rowIs w.heap.size 3 zs.length (fun j => if h : j < k ∧ j < zs.length then .int .i64 zs[j] else .int .i64 0) ∧ Below w.heap.size w wr ∧ wr.heap.size = w.heap.size + 1) (fun i _ => zs.length - (intOf i).toNat)
  case atStart =>
    refine ⟨0, by omega, rfl, ?_, (Below.refl _ _).alloc (Nat.le_refl _) _, by simp⟩
    exact (World.rowIs_made w (.int .i64 0) zs.length 3).congr (fun i hi => by simp)
  case round =>
    obtain ⟨k, hk, rfl, hrow, hb, hz⟩ := hrel
    by_cases hlt : k < zs.length
    · obtain ⟨b, o, rfl, hbl, hcell⟩ := hc (by omega)
      have hck : wr.cell? ⟨b, o + k, none⟩ = some (.int .i64 zs[k]) := (hb.cell (p := ⟨b, o + k, none⟩) hbl).trans (hcell k hlt)
      have hfr := hrow.frozen k
      have hce := hrow.cell hlt
      have R := hrow.set k (.int .i64 zs[k])
      have B := hb.setCell (p := ⟨w.heap.size, k, none⟩) (Nat.le_refl _) (.int .i64 zs[k])
      have RH := hideIt R
      have BH := hideIt B
      clear R B hrow hcell hc
      go_wp2
      go_roundw
      case rel =>
        refine ⟨k + 1, by omega, by go_num, RH.out.congr (fun j hj => ?_), BH.out, by simp [hz]⟩
        by_cases e : j = k
        · subst e; simp [hj]
        · by_cases e2 : j < k
          · simp [e, e2, hj, show j < k + 1 by omega]
          · simp [e, e2, show ¬ j < k + 1 by omega]
      case measure => simp [intOf]; omega
    · have e : k = zs.length := by omega
      subst e
      go_wp2
      go_ret
      refine ⟨_, rfl, row_of_rowIs hrow (fun i hi => by simp [hi]) (Nat.le_refl _) (by omega) (by simp [maxLen]; omega), hb⟩
set_option maxHeartbeats 1000000 in
theorem eqIntS_same (va vb : Value) (zs : List Int) (w : World) (ha : RdI w va zs) (hb : RdI w vb zs) (hn : zs.length ≤ 2147483648) :
    Calls Tryd.prog 23 #[va, vb] w fun e w' => e = .returned (.bool true) ∧ Below w.heap.size w w' := by
  obtain ⟨ao, cap, rfl, hcap, hc⟩ := ha.shape
  obtain ⟨ao2, cap2, rfl, hcap2, hc2⟩ := hb.shape
  clear ha hb
  go_enter Tryd.func23, Tryd.ntmps23
  go_wp2
  go_loopw [5] (fun i wr => ∃ k : Nat, k ≤ zs.length ∧ i = .int .i64 k ∧ Below w.heap.size w wr) (fun i _ => zs.length - (intOf i).toNat)
  case atStart => exact ⟨0, by omega, rfl, Below.refl _ _⟩
  case round =>
    obtain ⟨k, hk, rfl, hbw⟩ := hrel
    by_cases hlt : k < zs.length
    · obtain ⟨b, o, rfl, hbl, hcell⟩ := hc (by omega)
      obtain ⟨b2, o2, rfl, hbl2, hcell2⟩ := hc2 (by omega)
      have hck : wr.cell? ⟨b, o + k, none⟩ = some (.int .i64 zs[k]) := (hbw.cell (p := ⟨b, o + k, none⟩) hbl).trans (hcell k hlt)
      have hck2 : wr.cell? ⟨b2, o2 + k, none⟩ = some (.int .i64 zs[k]) := (hbw.cell (p := ⟨b2, o2 + k, none⟩) hbl2).trans (hcell2 k hlt)
      have hlt' : (k : Int) < (zs.length : Int) := by omega
      have hge : (0 : Int) ≤ (k : Int) := by omega
      clear hcell hcell2 hc hc2
      go_wp2
      go_quiet (fail)
      go_wp2
      go_roundw
      case rel => exact ⟨k + 1, by omega, by go_num, below_drewN hbw _⟩
      case measure => simp [intOf]; omega
    · go_wp2
      go_ret
      exact ⟨rfl, hbw⟩
def marks (k : Int) (n : Nat) : List Int := (List.range n).map (fun (i : Nat) => k + (i : Int))
theorem marks_len (k : Int) (n : Nat) : (marks k n).length = n := by simp [marks]
theorem marks_at (k : Int) (n i : Nat) (h : i < (marks k n).length) : (marks k n)[i] = k + (i : Int) := by simp [marks]
theorem ints_set_at {zs : List Value} {j : Nat} {u : Value} {i : Nat} (hi : i < zs.length) : (zs.set j u)[i]? = if i = j then some u else zs[i]? := by
  by_cases e : i = j
  · subst e; simp [hi]
  · simp [e, show ¬ j = i from fun h => e h.symm]
set_option maxHeartbeats 1000000 in
theorem markIntS_any {e0 : TypeId} (v : Value) (n : Nat) (xs : List Value) (k0 : Int) (lo hi : Nat) (w : World) (h : Row w e0 1 lo hi v n xs) (hx : ∀ u ∈ xs, ∃ z, u = .int .i64 z) (hn : n ≤ 2147483648) (h0 : 0 ≤ k0) (h1 : k0 ≤ 1099511627776) :
    Calls Tryd.prog 25 #[v, .int .i64 k0] w fun e w' => e = .returned (.int .i64 (k0 + n)) ∧ Row w' e0 1 lo hi v n (ints (marks k0 n)) ∧ w.grownBy w' v.ownBlock ∧ w'.heap.size = w.heap.size := by
  obtain ⟨hlen, ao, cap, rfl, hcap, hc⟩ := h.rd
  go_enter Tryd.func25, Tryd.ntmps25
  go_wp2
  go_loopw [1, 5] (fun c i wr => ∃ k : Nat, k ≤ n ∧ i = .int .i64 k ∧ c = .int .i64 (k0 + k) ∧ (∃ ys : List Value, Row wr e0 1 lo hi (.slice ao n cap) n ys ∧ (∀ u ∈ ys, ∃ z, u = .int .i64 z) ∧ ∀ j, j < k → ys[j]? = some (.int .i64 (k0 + j))) ∧ w.grownBy wr (Value.slice ao n cap).ownBlock ∧ wr.heap.size = w.heap.size) (fun _ i _ => n - (intOf i).toNat)
  case atStart => exact ⟨0, by omega, rfl, by simp, ⟨xs, h, hx, fun j hj => absurd hj (by omega)⟩, World.grownBy.refl _ _, rfl⟩
  case round =>
    obtain ⟨k, hk, rfl, rfl, ⟨ys, hrow, hys, hd⟩, hout, hz⟩ := hrel
    clear h hx hc hlen
    by_cases hlt : k < n
    · obtain ⟨hlen, ao', cap', e', _, hc⟩ := hrow.rd
      cases e'
      obtain ⟨b, o, rfl, hbl, hcell⟩ := hc (by omega)
      have hb1 : lo ≤ b ∧ b < hi := ⟨(hrow.1.lt b rfl).1, hrow.2 b rfl⟩
      have ho : o = 0 := by
        rcases hrow.1.2 with ⟨e, _⟩ | ⟨g, cp, cur, e, _⟩
        · cases e
        · cases e; rfl
      subst ho
      have hyl : k < ys.length := by omega
      obtain ⟨z, hz0⟩ := hys ys[k] (List.getElem_mem hyl)
      have hck : wr.cell? ⟨b, k, none⟩ = some (.int .i64 z) := by
        have := hcell k (by omega)
        rw [Nat.zero_add, List.getElem?_eq_getElem hyl, hz0] at this
        exact this
      have hfr : wr.frozen? ⟨b, k, none⟩ = false := hrow.1.frozenAt k
      have RH := hideIt (World.ownsRow.stored hrow.1 k (.int .i64 (k0 + k))).1
      have OH := hideIt (grown_setCell hout (a := ⟨b, k, none⟩) rfl (.int .i64 (k0 + k)))
      have YH := hideIt hys
      have DH := hideIt hd
      have LH := hideIt hrow.2
      clear hrow hys hd hcell hc hz0
      go_wp2
      go_roundw
      case rel =>
        refine ⟨k + 1, by omega, by go_num, by go_num, ⟨ys.set k (.int .i64 (k0 + k)), ⟨RH.out, LH.out⟩, fun u hu => ?_, fun j hj => ?_⟩, OH.out, by simp [hz]⟩
        · rcases List.mem_or_eq_of_mem_set hu with hu | rfl
          · exact YH.out u hu
          · exact ⟨_, rfl⟩
        · rw [ints_set_at (by omega)]
          split
          · rename_i e; rw [e]
          · exact DH.out j (by omega)
      case measure => simp [intOf]; omega
    · have e : k = n := by omega
      subst e
      have RH := hideIt hrow
      have DH := hideIt hd
      clear hrow hys hd
      go_wp2
      go_ret
      have e : ys = ints (marks k0 k) := by
        apply List.ext_getElem?
        intro j
        by_cases hj : j < k
        · rw [DH.out j hj, ints_at _ j (by rw [marks_len]; exact hj), marks_at]
        · have hyl := RH.out.1.1
          rw [List.getElem?_eq_none (by omega), List.getElem?_eq_none (by rw [ints_len, marks_len]; omega)]
      exact ⟨rfl, e ▸ RH.out, hout, hz⟩
set_option maxHeartbeats 1000000 in
theorem heldIntS_any (v : Value) (n : Nat) (k0 : Int) (w : World) (h : RdI w v (marks k0 n)) (hn : n ≤ 2147483648) (h0 : 0 ≤ k0) (h1 : k0 ≤ 1099511627776) :
    Calls Tryd.prog 48 #[v, .int .i64 k0] w fun e w' => e = .returned (.int .i64 (k0 + n)) ∧ w' = w := by
  obtain ⟨ao, cap, rfl, hcap, hc⟩ := h.shape
  simp only [marks_len] at hcap hc ⊢
  clear h
  go_enter Tryd.func48, Tryd.ntmps48
  go_wp2
  go_loop [1, 5] (fun c i => ∃ k : Nat, k ≤ n ∧ i = .int .i64 k ∧ c = .int .i64 (k0 + k)) (fun _ i => n - (intOf i).toNat)
  case atStart => exact ⟨0, by omega, rfl, by simp⟩
  case round =>
    obtain ⟨k, hk, rfl, rfl⟩ := hrel
    by_cases hlt : k < n
    · obtain ⟨b, o, rfl, hbl, hcell⟩ := hc (by omega)
      have hck : w.cell? ⟨b, o + k, none⟩ = some (.int .i64 (k0 + k)) := by rw [hcell k hlt, marks_at]
      clear hcell hc
      go_wp2
      go_round
      case rel => exact ⟨k + 1, by omega, by go_num, by go_num⟩
      case measure => simp [intOf]; omega
    · have e : k = n := by omega
      subst e
      go_wp2
      go_ret
      exact ⟨rfl, rfl⟩
def less (left : Int) (n : Nat) : Int := if left < n then -1 else left - n
theorem szIntS_any (ao : Option Addr) (n cap : Nat) (left : Int) (w : World) (hn : n ≤ maxLen) (h0 : 0 ≤ left) (h1 : left ≤ 1048576) :
    Calls Tryd.prog 43 #[.slice ao n cap, .int .i64 left] w fun e w' => e = .returned (.int .i64 (less left n)) ∧ w' = w := by
  unfold maxLen at hn
  by_cases h : left < n
  · have e : less left n = -1 := by unfold less; rw [if_pos h]
    rw [e]; clear e
    go_enter Tryd.func43, Tryd.ntmps43
    go_wp2
    go_ret
    exact ⟨rfl, rfl⟩
  · have e : less left n = left - n := by unfold less; rw [if_neg h]
    rw [e]; clear e
    go_enter Tryd.func43, Tryd.ntmps43
    go_wp2
    go_ret
    exact ⟨rfl, rfl⟩
theorem ints_one (zs : List Int) : ∀ u ∈ ints zs, u.oneCell' = true := ints_oneCell _ zs
theorem RdI.form {w : World} {v : Value} {zs : List Int} (h : RdI w v zs) {n : Nat} (hn : zs.length = n) : ∃ ao cap, v = .slice ao n cap := by
  obtain ⟨ao, cap, e, _⟩ := h.shape
  exact ⟨ao, cap, by rw [← hn]; exact e⟩
theorem ints_set (zs : List Int) (j : Nat) (x : Int) : (ints zs).set j (.int .i64 x) = ints (zs.set j x) := by simp [ints, List.map_set]
theorem ints_snoc (zs : List Int) (x : Int) : ints (zs ++ [x]) = ints zs ++ [.int .i64 x] := by simp [ints]
theorem rd_int (w1 : World) (x : Int) : Rd (w1.alloc (.cells #[.int .i64 x] 3)) 1 (.slice (some ⟨w1.heap.size, 0, none⟩) 1 1) 1 [.int .i64 x] := by
  refine ⟨rfl, _, _, rfl, ⟨Nat.le_refl _, fun e => by cases e⟩, fun _ => ⟨w1.heap.size, 0, rfl, by simp, fun j hj => ?_⟩⟩
  have hj0 : j = 0 := by omega
  subst hj0
  have e := at_new (w := w1) (o := .cells #[.int .i64 x] 3) rfl
  simp only [World.cell?, Nat.add_zero]
  rw [e]
  rfl
end Go.Proofs.YtbjcoeimcdodjaaDoor
