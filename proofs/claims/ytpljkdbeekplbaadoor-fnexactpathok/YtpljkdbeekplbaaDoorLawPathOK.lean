/- The law of PathOK: the walk. -/
import Derived.Test.YtpljkdbeekplbaaDoorPbE
namespace Go.Proofs.YtpljkdbeekplbaaDoor
open Go.RowKit

set_option maxRecDepth 100000 in
set_option maxHeartbeats 4000000 in
theorem pathOK_law (s : ByteArray) (w : World) :
    Calls Tryd.prog 4 #[.string s] w fun e w' => e = .returned (.bool true) ∧ Below w.heap.size w w' := by
  have IC := hideIt (fun w1 => implPathOK_any s w1)
  have SC := hideIt (fun w1 => specPathOK_any s w1)
  generalize (spC s == 0) = ans at *
  by_cases c : (s.size : Int) > 1048576
  · go_enter Tryd.func4, Tryd.ntmps4
    go_wp2
    go_ret
    exact ⟨rfl, Below.refl _ _⟩
  · go_enter Tryd.func4, Tryd.ntmps4
    go_wp2_with fail
    refine (SC.out _).mono ?_
    rintro e w1 ⟨rfl, hb1⟩
    have B1 := hideIt hb1
    clear hb1
    go_wp2_with fail
    refine (IC.out _).mono ?_
    rintro e w2 ⟨rfl, hb2⟩
    have B2 := hideIt (below_trans B1.out hb2 B1.out.size)
    clear hb2
    go_wp2
    go_ret
    exact ⟨rfl, B2.out⟩

end Go.Proofs.YtpljkdbeekplbaaDoor
