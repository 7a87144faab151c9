/- Answers: held against one another, marked. -/
import Derived.Test.YtipklbnfobckaaaDoorStA
namespace Go.Proofs.YtipklbnfobckaaaDoor
open Go.RowKit

set_option maxRecDepth 100000 in
set_option maxHeartbeats 4000000 in
theorem eqAnswer_same (c v : Int) (va vb : Value) (ss : List ByteArray) (w : World) (ha : RdT w va ss) (hb : RdT w vb ss) (hn : ss.length ≤ 2147483648) :
    Calls Tryd.prog 16 #[.agg #[.int .i64 c, .int .i64 v, va], .agg #[.int .i64 c, .int .i64 v, vb]] w fun e w' => e = .returned (.bool true) ∧ Below w.heap.size w w' := by
  have LE := hideIt (fun w1 (h : Below w.heap.size w w1) => eqStringS_same va vb ss w1 (Rd.below ha h) (Rd.below hb h) hn)
  obtain ⟨-, aa, ca, rfl, -⟩ := ha
  obtain ⟨-, ab, cb, rfl, -⟩ := hb
  have BW : Hid (Below w.heap.size w ((w.alloc (.cells #[.int .i64 c, .int .i64 v, .slice aa ss.length ca] 34)).alloc (.cells #[.int .i64 c, .int .i64 v, .slice ab ss.length cb] 34))) := ((Below.refl _ _).alloc (Nat.le_refl _) _).alloc (by simp) _
  go_enter Tryd.func16, Tryd.ntmps16
  go_wp2_with fail
  refine (LE.out _ BW.out).mono ?_
  rintro e w1 ⟨rfl, hb1⟩
  have B1 := hideIt (below_trans BW.out hb1 BW.out.size)
  clear hb1
  go_wp2
  go_ret
  exact ⟨rfl, B1.out⟩
set_option maxRecDepth 100000 in
set_option maxHeartbeats 4000000 in
theorem markAnswer_any (c v : Int) (vN : Value) (ss : List ByteArray) (k0 : Int) (lo hi : Nat) (w : World) (h : Row w 9 1 lo hi vN ss.length (strs ss)) (hz : hi ≤ w.heap.size) (hn : ss.length ≤ 16777216) (h0 : 0 ≤ k0) (h1 : k0 ≤ 1099511627776) :
    Calls Tryd.prog 20 #[.agg #[.int .i64 c, .int .i64 v, vN], .int .i64 k0] w fun e w' => e = .returned (.int .i64 (k0 + ss.length)) ∧ Row w' 9 1 lo hi vN ss.length (strs (marksT k0 ss.length)) ∧ ∃ wa, Below w.heap.size w wa ∧ hi ≤ wa.heap.size ∧ wa.grownBy w' vN.ownBlock := by
  obtain ⟨-, aa, ca, rfl, -⟩ := h.rd
  have BW : Hid (Below w.heap.size w (w.alloc (.cells #[.int .i64 c, .int .i64 v, .slice aa ss.length ca] 34))) := (Below.refl _ _).alloc (Nat.le_refl _) _
  have LM := hideIt (markStringS_any (.slice aa ss.length ca) ss k0 lo hi (w.alloc (.cells #[.int .i64 c, .int .i64 v, .slice aa ss.length ca] 34)) (h.below BW.out hz) (Nat.le_trans hz BW.out.size) hn h0 h1)
  have hz2 : hi ≤ (w.alloc (.cells #[.int .i64 c, .int .i64 v, .slice aa ss.length ca] 34)).heap.size := Nat.le_trans hz BW.out.size
  have Z2 := hideIt hz2
  clear h hz hz2
  go_enter Tryd.func20, Tryd.ntmps20
  go_wp2_with fail
  refine LM.out.mono ?_
  rintro e w1 ⟨rfl, hr1, hg1, -⟩
  have R1 := hideIt hr1
  have G1 := hideIt hg1
  clear hr1 hg1 LM
  go_wp2
  go_ret
  exact ⟨rfl, R1.out, _, BW.out, Z2.out, G1.out⟩
set_option maxRecDepth 100000 in
set_option maxHeartbeats 4000000 in
theorem heldAnswer_any (c v : Int) (vN : Value) (n : Nat) (k0 : Int) (w : World) (h : RdT w vN (marksT k0 n)) (hn : n ≤ 16777216) (h0 : 0 ≤ k0) (h1 : k0 ≤ 1099511627776) :
    Calls Tryd.prog 24 #[.agg #[.int .i64 c, .int .i64 v, vN], .int .i64 k0] w fun e w' => e = .returned (.int .i64 (k0 + n)) ∧ Below w.heap.size w w' := by
  have LH := hideIt (fun w1 (hb : Below w.heap.size w w1) => heldStringS_any vN n k0 w1 (Rd.below h hb) hn h0 h1)
  obtain ⟨-, aa, ca, e, -⟩ := h
  rw [marksT_len] at e
  subst e
  have BW : Hid (Below w.heap.size w (w.alloc (.cells #[.int .i64 c, .int .i64 v, .slice aa n ca] 34))) := (Below.refl _ _).alloc (Nat.le_refl _) _
  have q : ¬ k0 + (n : Int) < 0 := by omega
  go_enter Tryd.func24, Tryd.ntmps24
  go_wp2_with fail
  refine (LH.out _ BW.out).mono ?_
  rintro e w1 ⟨rfl, hb1⟩
  have B1 := hideIt (below_trans BW.out hb1 BW.out.size)
  clear hb1
  go_wp2
  go_ret
  exact ⟨rfl, B1.out⟩
end Go.Proofs.YtipklbnfobckaaaDoor
