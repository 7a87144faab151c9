/- Heat that is touched, and that cools down: by the model. -/
import Derived.Test.YtfcjhhiekjbbiaaTrA
namespace Go.Proofs.Ytfcjhhiekjbbiaa
open Go.RowKit

def deR (hs : List Int) : List Int × Int := if 4096 < hs.length then ([], 2) else if heatB hs = true then (decH hs 128, 0) else ([], 1)
theorem heat_parts {hs : List Int} (h : heatB hs = true) : hs.length = 128 ∧ ∀ k (h : k < hs.length), 0 ≤ hs[k] ∧ hs[k] ≤ 64 := of_decide_eq_true h
theorem own_blk {w : World} {base : Nat} {e : TypeId} {size : Nat} {v : Value} {n : Nat} {xs : List Value} (h : w.ownsRow base e size v n xs) (hn : 0 < n) : ∃ b c, v = .slice (some ⟨b, 0, none⟩) n c ∧ n ≤ c := by
  rcases (own_block h).shape with ⟨_, e, _⟩ | ⟨b, c, rfl, hc, _⟩
  · omega
  · exact ⟨b, c, rfl, hc⟩
/-- Numbers that are told. -/
def InOut (w w' : World) (e : Ending) (r : List Int × Int) : Prop := ∃ v', e = .returned (.tuple #[v', .int .i64 r.2]) ∧ Row w' 3 1 w.heap.size w'.heap.size v' r.1.length (ints r.1) ∧ Below w.heap.size w w'
theorem in_none {w w1 : World} {n : Nat} {c : Int} (B : Below w.heap.size w w1) (e : n = w1.heap.size) : InOut w (w1.alloc (.cells #[] 3)) (.returned (.tuple #[.slice (some ⟨n, 0, none⟩) 0 0, .int .i64 c])) ([], c) := by
  subst e
  exact ⟨_, rfl, (row_none w1 3 1).wide B.size (Nat.le_refl _), B.alloc B.size _⟩

set_option maxRecDepth 100000 in
set_option maxHeartbeats 4000000 in
theorem specDecay_any (v : Value) (hs : List Int) (w : World) (h : RdI w v hs) (hn : hs.length ≤ 1048576) :
    Calls Try.prog 22 #[v] w fun e w' => InOut w w' e (deR hs) := by
  have LH := hideIt (specHeatOK_any v hs w h hn)
  have LT := hideIt (fun (q : heatB hs = true) => l09Decay_any v hs w h (heat_parts q).1 (heat_parts q).2)
  have EO := hideIt (show deR hs = if 4096 < hs.length then ([], 2) else if heatB hs = true then (decH hs 128, 0) else ([], 1) from rfl)
  have BR := hideIt (Below.refl w.heap.size w)
  obtain ⟨ao, cap, rfl, -, -⟩ := h.shape
  generalize deR hs = res at *
  generalize decH hs 128 = H at *
  generalize heatB hs = hb at *
  clear h
  by_cases c1 : 4096 < hs.length
  · rw [if_pos c1] at EO
    obtain rfl := EO.out
    have c2 : (hs.length : Int) > 4096 := by omega
    clear EO c1 LH LT
    go_enter Try.func22, Try.ntmps22
    go_wp2
    go_ret2
    exact in_none BR.out rfl
  rw [if_neg c1] at EO
  have c2 : ¬ (hs.length : Int) > 4096 := by omega
  clear c1
  cases hb with
  | false =>
    obtain rfl := EO.out
    clear EO LT
    go_enter Try.func22, Try.ntmps22
    go_wp2_with fail
    refine LH.out.mono ?_
    rintro e w' ⟨rfl, hw'⟩
    subst w'
    go_wp2
    go_ret2
    exact in_none BR.out rfl
  | true =>
  rw [if_pos rfl] at EO
  have LT2 := hideIt (LT.out (by first | rfl | trivial))
  obtain rfl := EO.out
  clear LT EO
  go_enter Try.func22, Try.ntmps22
  go_wp2_with fail
  refine LH.out.mono ?_
  rintro e w' ⟨rfl, hw'⟩
  subst w'
  go_wp2_with fail
  refine LT2.out.mono ?_
  rintro e w1 ⟨v1, rfl, hr1, hb1⟩
  have R1 := hideIt hr1
  have B1 := hideIt hb1
  obtain ⟨-, aN, cN, hvN, -⟩ := hr1.rd
  subst hvN
  clear hr1 hb1
  go_wp2
  go_ret2
  exact ⟨_, rfl, R1.out, B1.out⟩
end Go.Proofs.Ytfcjhhiekjbbiaa
