/- Heat: by the model. -/
import Derived.Test.YtfcjhhiekjbbiaaPiH
import Derived.Test.YtfcjhhiekjbbiaaIntS
namespace Go.Proofs.Ytfcjhhiekjbbiaa
open Go.RowKit

/-- Heat that is right; heat of a fresh file system; all halved. -/
def heatB (hs : List Int) : Bool := decide (hs.length = 128 ∧ ∀ k (h : k < hs.length), 0 ≤ hs[k] ∧ hs[k] ≤ 64)
def newH (n : Nat) : List Int := List.replicate n 1
def decH (hs : List Int) (n : Nat) : List Int := (hs.take n).map (fun z => z / 2)
theorem newH_succ (n : Nat) : newH (n + 1) = newH n ++ [1] := by unfold newH; rw [List.replicate_succ', ]
theorem newH_len (n : Nat) : (newH n).length = n := by simp [newH]
theorem decH_succ (hs : List Int) (n : Nat) (h : n < hs.length) : decH hs (n + 1) = decH hs n ++ [hs[n] / 2] := by
  unfold decH
  rw [List.take_succ_eq_append_getElem h, List.map_append]
  rfl
theorem decH_len (hs : List Int) (n : Nat) : (decH hs n).length ≤ n := by unfold decH; simp; omega

set_option maxRecDepth 100000 in
set_option maxHeartbeats 4000000 in
theorem l09New_any (w : World) : Calls Try.prog 34 #[] w fun e w' => ∃ v', e = .returned v' ∧ Row w' 3 1 w.heap.size w'.heap.size v' (newH 128).length (ints (newH 128)) ∧ Below w.heap.size w w' := by
  have START : Hid (InI w (w.alloc (.cells #[] 3)) (.slice (some ⟨w.heap.size, 0, none⟩) 0 0) (newH 0)) := ⟨World.ownsRow_lit w #[] 0 (Nat.le_refl _) (by simp [maxLen]) (by simp), (Below.refl _ _).alloc (Nat.le_refl _) _⟩
  go_enter Try.func34, Try.ntmps34
  go_wp2
  go_loopw [1, 2] (fun vL i wr => ∃ m : Nat, m ≤ 128 ∧ i = .int .i64 (m : Int) ∧ Hid (InI w wr vL (newH m))) (fun _ i _ => 128 - (intOf i).toNat)
  case atStart => exact ⟨0, by omega, rfl, START⟩
  case round =>
    obtain ⟨m, hm, rfl, J⟩ := hrel
    clear START
    have m0 : (0 : Int) ≤ (m : Int) := by omega
    by_cases hlt : m < 128
    · have m1 : (m : Int) < 128 := by omega
      have EM := hideIt (newH_succ m)
      have l2 : (newH m).length ≤ 128 := by rw [newH_len]; omega
      have JB : Hid (InI w (wr.alloc (.cells #[.int .i64 1] 3)) u1 (newH m)) := J.out.below ((Below.refl _ _).alloc (Nat.le_refl _) _)
      have RB := hideIt (rd_int wr 1)
      have hzb := JB.out.z
      clear J
      go_wp2_with (at_builtin; refine wpList_append_rd _ rfl (.tmp 8) (.tmp 9) 23 rfl w.heap.size 3 (.int .i64 0) 1 8 Try.underlying23 info3 rfl (by decide) _ _ _ rfl JB.out.l _ 1 _ rfl RB.out (one_int _) (by first | omega | (simp [maxLen]; omega)) (by first | omega | (simp; omega)) hzb ?_)
      intro vN wN hownN hgrN
      have G := hideIt (JB.out.grow 1 hownN hgrN)
      rw [← EM.out] at G
      clear hownN hgrN JB RB
      go_wp2
      go_roundw
      case rel => exact ⟨m + 1, by omega, by go_num, G⟩
      case measure => simp [intOf]; omega
    · obtain rfl : m = 128 := by omega
      obtain ⟨-, aN, cN, hvN, -⟩ := (own_block J.out.l).rd
      subst hvN
      go_wp2
      go_ret
      exact ⟨_, rfl, own_block J.out.l, J.out.b⟩
set_option maxRecDepth 100000 in
set_option maxHeartbeats 4000000 in
theorem specHeatOK_any (v : Value) (hs : List Int) (w : World) (h : RdI w v hs) (_hn : hs.length ≤ 1048576) : Calls Try.prog 20 #[v] w fun e w' => e = .returned (.bool (heatB hs)) ∧ w' = w := by
  have NO := hideIt (fun h => show heatB hs = false from decide_eq_false h)
  have YES := hideIt (fun h => show heatB hs = true from decide_eq_true h)
  obtain ⟨ao, cap, rfl, hcap, hc⟩ := h.shape
  by_cases c1 : (hs.length : Int) > 4096
  · rw [NO.out (fun q => by omega)]
    go_enter Try.func20, Try.ntmps20
    go_wp2
    go_ret
    exact ⟨rfl, rfl⟩
  by_cases c2 : hs.length = 128
  case neg =>
    rw [NO.out (fun q => c2 q.1)]
    have q : ((hs.length : Int) != 128) = true := by rw [bne_iff_ne]; omega
    go_enter Try.func20, Try.ntmps20
    go_wp2
    go_ret
    exact ⟨rfl, rfl⟩
  obtain ⟨b, o, rfl, hbl, hcell⟩ := hc (by omega)
  have HC := hideIt hcell
  have L128 := hideIt c2
  rw [show heatB hs = heatB hs from rfl]
  generalize hb : heatB hs = hB at *
  clear hb hcell c1
  rw [c2]
  clear c2 hcap
  go_enter Try.func20, Try.ntmps20
  go_wp2
  go_loopw [3] (fun i wr => ∃ m : Nat, m ≤ 128 ∧ i = .int .i64 (m : Int) ∧ wr = w ∧ Hid (∀ k (h : k < hs.length), k < m → 0 ≤ hs[k] ∧ hs[k] ≤ 64)) (fun i _ => 128 - (intOf i).toNat)
  case atStart => exact ⟨0, by omega, rfl, rfl, fun k _ hk => absurd hk (by omega)⟩
  case round =>
    obtain ⟨m, hm, rfl, rfl, J⟩ := hrel
    have m0 : (0 : Int) ≤ (m : Int) := by omega
    by_cases hlt : m < 128
    · have m1 : (m : Int) < 128 := by omega
      have hl : m < hs.length := by have := L128.out; omega
      have e0 := HC.out m hl
      by_cases q : 0 ≤ hs[m] ∧ hs[m] ≤ 64
      · have G : Hid (∀ k (h : k < hs.length), k < m + 1 → 0 ≤ hs[k] ∧ hs[k] ≤ 64) := fun k hk hkm => by
          rcases Nat.lt_succ_iff_lt_or_eq.1 hkm with r | rfl
          · exact J.out k hk r
          · exact q
        generalize hs[m] = z at *
        clear J
        go_wp2_with fail
        refine (l01In_yes _ _ _ _ q).mono ?_
        rintro e w' ⟨rfl, hw'⟩
        subst w'
        go_wp2
        go_roundw
        case rel => exact ⟨m + 1, by omega, by go_num, (by first | rfl | trivial), G⟩
        case measure => simp [intOf]; omega
      · have E := hideIt (NO.out (fun r => q (r.2 m hl)))
        generalize hs[m] = z at *
        obtain rfl := E.out
        go_wp2_with fail
        refine (l01In_no _ _ _ _ q).mono ?_
        rintro e w' ⟨rfl, hw'⟩
        subst w'
        go_wp2
        go_ret
        exact ⟨rfl, rfl⟩
    · obtain rfl : m = 128 := by omega
      have E := hideIt (YES.out ⟨L128.out, fun k hk => J.out k hk (by have := L128.out; omega)⟩)
      obtain rfl := E.out
      go_wp2
      go_ret
      exact ⟨rfl, rfl⟩

set_option maxRecDepth 100000 in
set_option maxHeartbeats 4000000 in
theorem l09Decay_any (v : Value) (hs : List Int) (w : World) (h : RdI w v hs) (hn : hs.length = 128) (hr : ∀ k (h : k < hs.length), 0 ≤ hs[k] ∧ hs[k] ≤ 64) :
    Calls Try.prog 35 #[v] w fun e w' => ∃ v', e = .returned v' ∧ Row w' 3 1 w.heap.size w'.heap.size v' (decH hs 128).length (ints (decH hs 128)) ∧ Below w.heap.size w w' := by
  obtain ⟨ao, cap, rfl, hcap, hc⟩ := h.shape
  obtain ⟨b, o, rfl, hbl, hcell⟩ := hc (by omega)
  have HC : Hid (∀ k (h : k < hs.length) w', Below w.heap.size w w' → w'.cell? ⟨b, o + k, none⟩ = some (.int .i64 hs[k])) := fun k hk w' hb => (hb.cell (p := ⟨b, o + k, none⟩) hbl).trans (hcell k hk)
  have HR := hideIt hr
  have L128 := hideIt hn
  have START : Hid (InI w (w.alloc (.cells #[] 3)) (.slice (some ⟨w.heap.size, 0, none⟩) 0 0) (decH hs 0)) := ⟨World.ownsRow_lit w #[] 0 (Nat.le_refl _) (by simp [maxLen]) (by simp), (Below.refl _ _).alloc (Nat.le_refl _) _⟩
  have DS := hideIt (fun m h => decH_succ hs m h)
  have DL := hideIt (fun m => decH_len hs m)
  rw [hn]
  clear hcell hr hn hcap hc h
  go_enter Try.func35, Try.ntmps35
  go_wp2
  go_loopw [3, 4] (fun vL i wr => ∃ m : Nat, m ≤ 128 ∧ i = .int .i64 (m : Int) ∧ Hid (InI w wr vL (decH hs m))) (fun _ i _ => 128 - (intOf i).toNat)
  case atStart => exact ⟨0, by omega, rfl, START⟩
  case round =>
    obtain ⟨m, hm, rfl, J⟩ := hrel
    clear START
    have m0 : (0 : Int) ≤ (m : Int) := by omega
    by_cases hlt : m < 128
    · have m1 : (m : Int) < 128 := by omega
      have hl : m < hs.length := by have := L128.out; omega
      have e0 := HC.out m hl wr J.out.b
      have EM := hideIt (DS.out m hl)
      have l2 : (decH hs m).length ≤ 128 := by have := DL.out m; omega
      obtain ⟨z0, z64⟩ := HR.out m hl
      generalize hs[m] = z at *
      have tq : Int.tdiv z 2 = z / 2 := Int.tdiv_eq_ediv_of_nonneg z0
      have JB : Hid (InI w (wr.alloc (.cells #[.int .i64 (z / 2)] 3)) u3 (decH hs m)) := J.out.below ((Below.refl _ _).alloc (Nat.le_refl _) _)
      have RB := hideIt (rd_int wr (z / 2))
      have hzb := JB.out.z
      clear J
      go_wp2_with (at_builtin; refine wpList_append_rd _ rfl (.tmp 12) (.tmp 18) 23 rfl w.heap.size 3 (.int .i64 0) 1 8 Try.underlying23 info3 rfl (by decide) _ _ _ rfl JB.out.l _ 1 _ rfl RB.out (one_int _) (by first | omega | (simp [maxLen]; omega)) (by first | omega | (simp; omega)) hzb ?_)
      intro vN wN hownN hgrN
      have G := hideIt (JB.out.grow (z / 2) hownN hgrN)
      rw [← EM.out] at G
      clear hownN hgrN JB RB
      go_wp2
      go_roundw
      case rel => exact ⟨m + 1, by omega, by go_num, G⟩
      case measure => simp [intOf]; omega
    · obtain rfl : m = 128 := by omega
      obtain ⟨-, aN, cN, hvN, -⟩ := (own_block J.out.l).rd
      subst hvN
      go_wp2
      go_ret
      exact ⟨_, rfl, own_block J.out.l, J.out.b⟩
end Go.Proofs.Ytfcjhhiekjbbiaa
