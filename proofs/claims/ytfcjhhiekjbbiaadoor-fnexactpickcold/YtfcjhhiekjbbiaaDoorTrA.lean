/- Heat: by the model. -/
import Derived.Test.YtfcjhhiekjbbiaaDoorPiH
import Derived.Test.YtfcjhhiekjbbiaaDoorZAB
namespace Go.Proofs.YtfcjhhiekjbbiaaDoor
open Go.RowKit

/-- Heat that is right; heat of a fresh file system; all halved. -/
def heatB (hs : List Int) : Bool := decide (hs.length = 128 ∧ ∀ k (h : k < hs.length), 0 ≤ hs[k] ∧ hs[k] ≤ 64)
set_option maxRecDepth 100000 in
set_option maxHeartbeats 4000000 in
theorem specHeatOK_any (v : Value) (hs : List Int) (w : World) (h : RdI w v hs) (_hn : hs.length ≤ 1048576) : Calls Tryd.prog 26 #[v] w fun e w' => e = .returned (.bool (heatB hs)) ∧ w' = w := by
  have NO := hideIt (fun h => show heatB hs = false from decide_eq_false h)
  have YES := hideIt (fun h => show heatB hs = true from decide_eq_true h)
  obtain ⟨ao, cap, rfl, hcap, hc⟩ := h.shape
  by_cases c1 : (hs.length : Int) > 4096
  · rw [NO.out (fun q => by omega)]
    go_enter Tryd.func26, Tryd.ntmps26
    go_wp2
    go_ret
    exact ⟨rfl, rfl⟩
  by_cases c2 : hs.length = 128
  case neg =>
    rw [NO.out (fun q => c2 q.1)]
    have q : ((hs.length : Int) != 128) = true := by rw [bne_iff_ne]; omega
    go_enter Tryd.func26, Tryd.ntmps26
    go_wp2
    go_ret
    exact ⟨rfl, rfl⟩
  obtain ⟨b, o, rfl, hbl, hcell⟩ := hc (by omega)
  have HC := hideIt hcell
  have L128 := hideIt c2
  rw [show heatB hs = heatB hs from rfl]
  generalize hb : heatB hs = hB at *
  clear hb hcell c1
  rw [c2]
  clear c2 hcap
  go_enter Tryd.func26, Tryd.ntmps26
  go_wp2
  go_loopw [3] (fun i wr => ∃ m : Nat, m ≤ 128 ∧ i = .int .i64 (m : Int) ∧ wr = w ∧ Hid (∀ k (h : k < hs.length), k < m → 0 ≤ hs[k] ∧ hs[k] ≤ 64)) (fun i _ => 128 - (intOf i).toNat)
  case atStart => exact ⟨0, by omega, rfl, rfl, fun k _ hk => absurd hk (by omega)⟩
  case round =>
    obtain ⟨m, hm, rfl, rfl, J⟩ := hrel
    have m0 : (0 : Int) ≤ (m : Int) := by omega
    by_cases hlt : m < 128
    · have m1 : (m : Int) < 128 := by omega
      have hl : m < hs.length := by have := L128.out; omega
      have e0 := HC.out m hl
      by_cases q : 0 ≤ hs[m] ∧ hs[m] ≤ 64
      · have G : Hid (∀ k (h : k < hs.length), k < m + 1 → 0 ≤ hs[k] ∧ hs[k] ≤ 64) := fun k hk hkm => by
          rcases Nat.lt_succ_iff_lt_or_eq.1 hkm with r | rfl
          · exact J.out k hk r
          · exact q
        generalize hs[m] = z at *
        clear J
        go_wp2_with fail
        refine (l01In_yes _ _ _ _ q).mono ?_
        rintro e w' ⟨rfl, hw'⟩
        subst w'
        go_wp2
        go_roundw
        case rel => exact ⟨m + 1, by omega, by go_num, (by first | rfl | trivial), G⟩
        case measure => simp [intOf]; omega
      · have E := hideIt (NO.out (fun r => q (r.2 m hl)))
        generalize hs[m] = z at *
        obtain rfl := E.out
        go_wp2_with fail
        refine (l01In_no _ _ _ _ q).mono ?_
        rintro e w' ⟨rfl, hw'⟩
        subst w'
        go_wp2
        go_ret
        exact ⟨rfl, rfl⟩
    · obtain rfl : m = 128 := by omega
      have E := hideIt (YES.out ⟨L128.out, fun k hk => J.out k hk (by have := L128.out; omega)⟩)
      obtain rfl := E.out
      go_wp2
      go_ret
      exact ⟨rfl, rfl⟩

end Go.Proofs.YtfcjhhiekjbbiaaDoor
