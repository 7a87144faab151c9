/- A line flushed: by the program, and by the model. -/
import Derived.Test.YtpgdpachomdfhaaPmFlush
namespace Go.Proofs.Ytpgdpachomdfhaa
open Go.RowKit

def flushWs (ws : List Int) (ps : List St) (at_ : Int) : List Int := if askC ws ps at_ = 0 then ws else []
def flushPs (ws : List Int) (ps : List St) (at_ : Int) : List St := if askC ws ps at_ = 0 then ps.map (fl1 at_) else []
theorem flushWs_len (ws : List Int) (ps : List St) (at_ : Int) : (flushWs ws ps at_).length ≤ ws.length := by unfold flushWs; split <;> simp
theorem flushPs_len (ws : List Int) (ps : List St) (at_ : Int) : (flushPs ws ps at_).length ≤ ps.length := by unfold flushPs; split <;> simp
theorem flush_not {ws : List Int} {ps : List St} {at_ : Int} (h : ¬ askC ws ps at_ = 0) : flushWs ws ps at_ = [] ∧ flushPs ws ps at_ = [] := by
  unfold flushWs flushPs
  rw [if_neg h, if_neg h]
  exact ⟨rfl, rfl⟩
theorem flush_ok {ws : List Int} {ps : List St} {at_ : Int} (h : askC ws ps at_ = 0) : flushWs ws ps at_ = ws ∧ flushPs ws ps at_ = ps.map (fl1 at_) := by
  unfold flushWs flushPs
  rw [if_pos h, if_pos h]
  exact ⟨rfl, rfl⟩

end Go.Proofs.Ytpgdpachomdfhaa
