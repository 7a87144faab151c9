/- Heat that is touched, and that cools down: by the model. -/
import Derived.Test.YtfcjhhiekjbbiaaTrA
namespace Go.Proofs.Ytfcjhhiekjbbiaa
open Go.RowKit

/-- A page is touched. -/
def touH (hs : List Int) (k : Nat) : List Int := hs.set k (min 64 (hs.getD k 0 + 8))
/-- What the calls answer. -/
def toR (hs : List Int) (i p : Int) : List Int × Int := if 4096 < hs.length then ([], 2) else if heatB hs = true then (if (0 ≤ i ∧ i ≤ 15) ∧ (0 ≤ p ∧ p ≤ 7) then (touH hs (8 * i + p).toNat, 0) else ([], 4)) else ([], 1)
def deR (hs : List Int) : List Int × Int := if 4096 < hs.length then ([], 2) else if heatB hs = true then (decH hs 128, 0) else ([], 1)
theorem heat_parts {hs : List Int} (h : heatB hs = true) : hs.length = 128 ∧ ∀ k (h : k < hs.length), 0 ≤ hs[k] ∧ hs[k] ≤ 64 := of_decide_eq_true h
theorem own_blk {w : World} {base : Nat} {e : TypeId} {size : Nat} {v : Value} {n : Nat} {xs : List Value} (h : w.ownsRow base e size v n xs) (hn : 0 < n) : ∃ b c, v = .slice (some ⟨b, 0, none⟩) n c ∧ n ≤ c := by
  rcases (own_block h).shape with ⟨_, e, _⟩ | ⟨b, c, rfl, hc, _⟩
  · omega
  · exact ⟨b, c, rfl, hc⟩
/-- Numbers that are told. -/
def InOut (w w' : World) (e : Ending) (r : List Int × Int) : Prop := ∃ v', e = .returned (.tuple #[v', .int .i64 r.2]) ∧ Row w' 3 1 w.heap.size w'.heap.size v' r.1.length (ints r.1) ∧ Below w.heap.size w w'
theorem in_none {w w1 : World} {n : Nat} {c : Int} (B : Below w.heap.size w w1) (e : n = w1.heap.size) : InOut w (w1.alloc (.cells #[] 3)) (.returned (.tuple #[.slice (some ⟨n, 0, none⟩) 0 0, .int .i64 c])) ([], c) := by
  subst e
  exact ⟨_, rfl, (row_none w1 3 1).wide B.size (Nat.le_refl _), B.alloc B.size _⟩

set_option maxRecDepth 100000 in
set_option maxHeartbeats 4000000 in
theorem l09Touch_any (v : Value) (hs : List Int) (i p : Nat) (w : World) (h : RdI w v hs) (hn : hs.length = 128) (hr : ∀ k (h : k < hs.length), 0 ≤ hs[k] ∧ hs[k] ≤ 64) (hi : i < 16) (hp : p < 8) :
    Calls Try.prog 30 #[v, .int .i64 (i : Int), .int .i64 (p : Int)] w fun e w' => ∃ v', e = .returned v' ∧ Row w' 3 1 w.heap.size w'.heap.size v' (touH hs (8 * i + p)).length (ints (touH hs (8 * i + p))) ∧ Below w.heap.size w w' := by
  obtain ⟨ao, cap, rfl, hcap, -⟩ := h.shape
  have HR : Hid (Rd (w.alloc (.cells #[] 3)) 1 (.slice ao hs.length cap) hs.length (ints hs)) := Rd.below h ((Below.refl _ _).alloc (Nat.le_refl _) _)
  have ST : Hid (InI w (w.alloc (.cells #[] 3)) (.slice (some ⟨w.heap.size, 0, none⟩) 0 0) []) := ⟨World.ownsRow_lit w #[] 0 (Nat.le_refl _) (by simp [maxLen]) (by simp), (Below.refl _ _).alloc (Nat.le_refl _) _⟩
  have hz : w.heap.size ≤ (w.alloc (.cells #[] 3)).heap.size := ST.out.z
  obtain ⟨k, hk⟩ : ∃ k : Nat, k = 8 * i + p := ⟨_, rfl⟩
  have k128 : k < hs.length := by omega
  have KL := hideIt k128
  obtain ⟨z0, z64⟩ := hr k k128
  have EG : Hid (hs.getD k 0 = hs[k]) := by unfold Hid; rw [List.getD_eq_getElem?_getD, List.getElem?_eq_getElem k128]; rfl
  have ET : Hid (touH hs k = hs.set k (min 64 (hs[k] + 8))) := by unfold Hid touH; rw [EG.out]
  have kk : (8 * (i : Int) + (p : Int)) = (k : Int) := by omega
  have w1f : IntKind.i64.wrap (8 * (i : Int)) = 8 * (i : Int) := by rw [IntKind.wrap_i64]; omega
  have w2f : IntKind.i64.wrap (8 * (i : Int) + (p : Int)) = (k : Int) := by rw [IntKind.wrap_i64]; omega
  have w3f : IntKind.i64.wrap (hs[k] + 8) = hs[k] + 8 := by rw [IntKind.wrap_i64]; omega
  rw [← hk, ET.out]
  have CL : Hid ((ints hs)[k]? = some (.int .i64 hs[k])) := ints_at hs k k128
  have hl1 : hs.length ≤ 128 := by omega
  clear hn hr
  generalize hs[k] = z at *
  obtain ⟨mm, em, cm⟩ : ∃ mm : Int, min 64 (z + 8) = mm ∧ ((z + 8 < 64 ∧ mm = z + 8) ∨ (¬ z + 8 < 64 ∧ mm = 64)) := ⟨min 64 (z + 8), rfl, by omega⟩
  rw [em]
  have CM := hideIt cm
  clear em cm
  go_enter Try.func30, Try.ntmps30
  go_wp2_with (at_builtin; refine wpList_append_rd _ rfl (.tmp 8) (.tmp 9) 23 rfl w.heap.size 3 (.int .i64 0) 1 8 Try.underlying23 info3 rfl (by decide) _ _ _ rfl ST.out.l _ hs.length (ints hs) rfl HR.out (ints_one _) (by first | omega | (simp [maxLen]; omega)) (by first | omega | (simp; omega)) hz ?_)
  intro vN wN hownN hgrN
  have G : Hid (Row wN 3 1 w.heap.size wN.heap.size vN hs.length (ints hs)) := by
    have q := own_block hownN
    exact q
  have BN : Hid (Below w.heap.size w wN) := ST.out.b.grown hgrN hz (fun q hq => (ST.out.l.lt q hq).1)
  obtain ⟨b, c, rfl, hcb⟩ := own_blk G.out.1 (by omega)
  obtain ⟨_, _, _, hbl, hfr, hcl⟩ := G.out.at
  have e0 : wN.cell? ⟨b, k, none⟩ = some (.int .i64 z) := (hcl k (by omega)).trans CL.out
  have f0 : wN.frozen? ⟨b, k, none⟩ = false := hfr k
  have k0 : (0 : Int) ≤ (k : Int) := by omega
  have k1 : (k : Int) < (hs.length : Int) := by omega
  have hwb : w.heap.size ≤ b := (G.out.1.lt b rfl).1
  have R2 : Hid (Row (wN.setCell ⟨b, k, none⟩ (.int .i64 mm)) 3 1 w.heap.size (wN.setCell ⟨b, k, none⟩ (.int .i64 mm)).heap.size (.slice (some ⟨b, 0, none⟩) hs.length c) hs.length (ints (hs.set k mm))) := by
    have q := G.out.stored k (.int .i64 mm)
    rw [ints_set] at q
    exact q.wide (Nat.le_refl _) (by simp [World.setCell])
  have B2 : Hid (Below w.heap.size w (wN.setCell ⟨b, k, none⟩ (.int .i64 mm))) := BN.out.setCell hwb _
  clear hownN hgrN G BN HR ST hcl hfr kk hk
  rcases CM.out with ⟨c1, rfl⟩ | ⟨c1, rfl⟩
  all_goals
    go_wp2
    go_ret
    exact ⟨_, rfl, R2.out, B2.out⟩

set_option maxRecDepth 100000 in
set_option maxHeartbeats 4000000 in
theorem specTouch_any (v : Value) (hs : List Int) (i p : Int) (w : World) (h : RdI w v hs) (hn : hs.length ≤ 1048576) :
    Calls Try.prog 11 #[v, .int .i64 i, .int .i64 p] w fun e w' => InOut w w' e (toR hs i p) := by
  have LH := hideIt (specHeatOK_any v hs w h hn)
  have LT := hideIt (fun (q : heatB hs = true) (a b : Nat) (ha : a < 16) (hb : b < 8) => l09Touch_any v hs a b w h (heat_parts q).1 (heat_parts q).2 ha hb)
  have EO := hideIt (show toR hs i p = if 4096 < hs.length then ([], 2) else if heatB hs = true then (if (0 ≤ i ∧ i ≤ 15) ∧ (0 ≤ p ∧ p ≤ 7) then (touH hs (8 * i + p).toNat, 0) else ([], 4)) else ([], 1) from rfl)
  have BR := hideIt (Below.refl w.heap.size w)
  obtain ⟨ao, cap, rfl, -, -⟩ := h.shape
  generalize toR hs i p = res at *
  generalize heatB hs = hb at *
  clear h
  by_cases c1 : 4096 < hs.length
  · rw [if_pos c1] at EO
    obtain rfl := EO.out
    have c2 : (hs.length : Int) > 4096 := by omega
    clear EO c1 LH LT
    go_enter Try.func11, Try.ntmps11
    go_wp2
    go_ret2
    exact in_none BR.out rfl
  rw [if_neg c1] at EO
  have c2 : ¬ (hs.length : Int) > 4096 := by omega
  clear c1
  cases hb with
  | false =>
    obtain rfl := EO.out
    clear EO LT
    go_enter Try.func11, Try.ntmps11
    go_wp2_with fail
    refine LH.out.mono ?_
    rintro e w' ⟨rfl, hw'⟩
    subst w'
    go_wp2
    go_ret2
    exact in_none BR.out rfl
  | true =>
  rw [if_pos rfl] at EO
  have LT2 := hideIt (LT.out (by first | rfl | trivial))
  clear LT
  by_cases c3 : 0 ≤ i ∧ i ≤ 15
  case neg =>
    rw [if_neg (fun q => c3 q.1)] at EO
    obtain rfl := EO.out
    clear EO
    go_enter Try.func11, Try.ntmps11
    go_wp2_with fail
    refine LH.out.mono ?_
    rintro e w' ⟨rfl, hw'⟩
    subst w'
    go_wp2_with fail
    refine (l01In_no _ _ _ _ c3).mono ?_
    rintro e w' ⟨rfl, hw'⟩
    subst w'
    go_wp2
    go_ret2
    exact in_none BR.out rfl
  by_cases c4 : 0 ≤ p ∧ p ≤ 7
  case neg =>
    rw [if_neg (fun q => c4 q.2)] at EO
    obtain rfl := EO.out
    clear EO
    go_enter Try.func11, Try.ntmps11
    go_wp2_with fail
    refine LH.out.mono ?_
    rintro e w' ⟨rfl, hw'⟩
    subst w'
    go_wp2_with fail
    refine (l01In_yes _ _ _ _ c3).mono ?_
    rintro e w' ⟨rfl, hw'⟩
    subst w'
    go_wp2_with fail
    refine (l01In_no _ _ _ _ c4).mono ?_
    rintro e w' ⟨rfl, hw'⟩
    subst w'
    go_wp2
    go_ret2
    exact in_none BR.out rfl
  rw [if_pos ⟨c3, c4⟩] at EO
  obtain ⟨a, rfl⟩ : ∃ a : Nat, i = (a : Int) := ⟨i.toNat, by omega⟩
  obtain ⟨b, rfl⟩ : ∃ b : Nat, p = (b : Int) := ⟨p.toNat, by omega⟩
  rw [show (8 * (a : Int) + (b : Int)).toNat = 8 * a + b by omega] at EO
  have LT3 := hideIt (LT2.out a b (by omega) (by omega))
  generalize touH hs (8 * a + b) = H at *
  obtain rfl := EO.out
  clear EO LT2
  go_enter Try.func11, Try.ntmps11
  go_wp2_with fail
  refine LH.out.mono ?_
  rintro e w' ⟨rfl, hw'⟩
  subst w'
  go_wp2_with fail
  refine (l01In_yes _ _ _ _ c3).mono ?_
  rintro e w' ⟨rfl, hw'⟩
  subst w'
  go_wp2_with fail
  refine (l01In_yes _ _ _ _ c4).mono ?_
  rintro e w' ⟨rfl, hw'⟩
  subst w'
  go_wp2_with fail
  refine LT3.out.mono ?_
  rintro e w1 ⟨v1, rfl, hr1, hb1⟩
  have R1 := hideIt hr1
  have B1 := hideIt hb1
  obtain ⟨-, aN, cN, hvN, -⟩ := hr1.rd
  subst hvN
  clear hr1 hb1
  go_wp2
  go_ret2
  exact ⟨_, rfl, R1.out, B1.out⟩

end Go.Proofs.Ytfcjhhiekjbbiaa
