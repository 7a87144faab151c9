/- The helpers of the laws over slices of writes: held against one another, marked, looked at. -/
import Derived.Test.YtenadnlgjobmdaiDoorSecS
import Derived.Deep.RegionWith
namespace Go.Proofs.YtenadnlgjobmdaiDoor
open Go.RowKit

set_option maxHeartbeats 2000000 in
/-- Two slices of writes that read alike are found alike. -/
theorem eqSectorS_same (va vb : Value) (ps : List Se) (w : World) (ha : RdE w va ps) (hb : RdE w vb ps) (hn : ps.length ≤ 2147483648) :
    Calls Tryd.prog 18 #[va, vb] w fun e w' => e = .returned (.bool true) ∧ Below w.heap.size w w' := by
  obtain ⟨ao, cap, rfl, hcap, hc⟩ := ha.shape
  obtain ⟨ao2, cap2, rfl, hcap2, hc2⟩ := hb.shape
  clear ha hb
  go_enter Tryd.func18, Tryd.ntmps18
  go_wp2
  go_loopw [5] (fun i wr => ∃ k : Nat, k ≤ ps.length ∧ i = .int .i64 k ∧ Below w.heap.size w wr) (fun i _ => ps.length - (intOf i).toNat)
  case atStart => exact ⟨0, by omega, rfl, Below.refl _ _⟩
  case round =>
    obtain ⟨k, hk, rfl, hbw⟩ := hrel
    by_cases hlt : k < ps.length
    · obtain ⟨b, o, rfl, hbl, hcell⟩ := hc (by omega)
      obtain ⟨b2, o2, rfl, hbl2, hcell2⟩ := hc2 (by omega)
      obtain ⟨c0, c1⟩ := hcell k hlt
      obtain ⟨c3, c4⟩ := hcell2 k hlt
      have d0 := (hbw.cell (p := ⟨b, o + k * 2, none⟩) hbl).trans c0
      have d1 := (hbw.cell (p := ⟨b, o + k * 2 + 1, none⟩) hbl).trans c1
      have d3 := (hbw.cell (p := ⟨b2, o2 + k * 2, none⟩) hbl2).trans c3
      have d4 := (hbw.cell (p := ⟨b2, o2 + k * 2 + 1, none⟩) hbl2).trans c4
      have hlt' : (k : Int) < (ps.length : Int) := by omega
      have hge : (0 : Int) ≤ (k : Int) := by omega
      have hz := hbw.size
      clear hcell hcell2 hc hc2 c0 c1 c3 c4
      go_wp2_with fail
      go_region_with (go_at_call 24; refine (eqSector_same _ _ _).mono ?_; rintro e w1 ⟨rfl, hb1⟩)
      all_goals
        go_wp2
        go_roundw
        case rel => exact ⟨k + 1, by omega, by go_num, hbw.trans (Below.mono (Below.trans ((Below.refl _ _).drew) ‹_›) hz)⟩
        case measure => simp [intOf]; omega
    · go_wp2
      go_ret
      exact ⟨rfl, hbw⟩

/-- The i-th of the marks from k on. -/
def markE (k : Int) (i : Nat) : Se := ⟨k + 2 * (i : Int), k + 2 * (i : Int) + 1⟩
def marksE (k : Int) (n : Nat) : List Se := (List.range n).map (markE k)
theorem marksE_len (k : Int) (n : Nat) : (marksE k n).length = n := by simp [marksE]
theorem marksE_at (k : Int) (n i : Nat) (h : i < (marksE k n).length) : (marksE k n)[i] = markE k i := by simp [marksE]

/-- Cells of writes: numbers. -/
def IsSes (xs : List Value) (n : Nat) : Prop := ∀ k, k < n → ∃ a b, xs[k * 2]? = some (.int .i64 a) ∧ xs[k * 2 + 1]? = some (.int .i64 b)
theorem isSes (ps : List Se) : IsSes (ses ps) ps.length := fun k hk => ⟨_, _, ses_at0 ps k hk, ses_at1 ps k hk⟩
theorem IsSes.put2 {ys : List Value} {n : Nat} (h : IsSes ys n) (hl : ys.length = n * 2) (k : Nat) (a b : Int) : IsSes (put2 ys k (.int .i64 a) (.int .i64 b)) n := by
  intro j hj
  rw [put2_at (by omega), put2_at (by omega)]
  by_cases e : j = k
  · subst e
    exact ⟨a, b, by simp, by simp⟩
  · obtain ⟨x, y, h0, h1⟩ := h j hj
    refine ⟨x, y, ?_, ?_⟩
    · rw [if_neg (by omega), if_neg (by omega)]; exact h0
    · rw [if_neg (by omega), if_neg (by omega)]; exact h1

end Go.Proofs.YtenadnlgjobmdaiDoor
