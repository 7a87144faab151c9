/- Fresh heat, heat that is touched, heat that cools down: by the program. -/
import Derived.Test.YtipklbnfobckaaaDoorTrE
namespace Go.Proofs.YtipklbnfobckaaaDoor
open Go.RowKit

set_option maxRecDepth 100000 in
set_option maxHeartbeats 4000000 in
theorem implNewHeat_any (w : World) : Calls Tryd.prog 12 #[] w fun e w' => ∃ v', e = .returned v' ∧ Row w' 3 1 w.heap.size w'.heap.size v' (newH 128).length (ints (newH 128)) ∧ Below w.heap.size w w' := by
  obtain ⟨W, hW⟩ : ∃ W, W = w.alloc (.cells #[.int .i64 1] 3) := ⟨_, rfl⟩
  have BW : Hid (Below w.heap.size w W) := by rw [hW]; exact (Below.refl _ _).alloc (Nat.le_refl _) _
  have L := hideIt (repeat_any w.heap.size W (fun w' hb => by
    have q : w'.heap[w.heap.size]? = some (.cells #[.int .i64 1] 3 (0, 0)) := (hb.block _ (by rw [hW]; simp)).trans (by rw [hW]; exact at_new rfl)
    simp [World.cell?, q]))
  rw [newH_len]
  generalize newH 128 = H at *
  go_enter Tryd.func12, Tryd.ntmps12
  go_wp2_with fail
  rw [← hW]
  clear hW
  refine L.out.mono ?_
  rintro e w1 ⟨v1, rfl, hr1, hb1⟩
  have R1 := hideIt (hr1.wide (lo' := w.heap.size) BW.out.size (Nat.le_refl _))
  have B1 := hideIt (below_trans BW.out hb1 BW.out.size)
  obtain ⟨-, aN, cN, hvN, -⟩ := hr1.rd
  subst hvN
  clear hr1 hb1
  go_wp2
  go_ret
  exact ⟨_, rfl, R1.out, B1.out⟩

end Go.Proofs.YtipklbnfobckaaaDoor
