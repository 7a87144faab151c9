/- A crash and a recovery: by the model. -/
import Derived.Test.YtlkmnpanddchdaaZBE
import Derived.Test.YtlkmnpanddchdaaZAZ
import Derived.Test.YtlkmnpanddchdaaWord
import Derived.Test.YtlkmnpanddchdaaDev
import Derived.Test.YtlkmnpanddchdaaZAO
import Derived.Test.YtlkmnpanddchdaaZAQ
import Derived.Test.YtlkmnpanddchdaaZAS
import Derived.Test.YtlkmnpanddchdaaZAX
import Derived.Test.YtlkmnpanddchdaaZBF
import Derived.Test.YtlkmnpanddchdaaZAU
import Derived.Test.YtlkmnpanddchdaaJrX
import Derived.Test.YtlkmnpanddchdaaZBA
import Derived.Test.YtlkmnpanddchdaaZBD
import Derived.Deep.RegionWith
import Derived.Deep.DeepCutAuto
import Derived.Deep.RegionLaw
import Derived.Deep.OwnRows
import Derived.Deep.RegionHeld3
import Derived.BigQuiet
namespace Go.Proofs.Ytlkmnpanddchdaa
open Go.RowKit

structure Dz where
  W : List Int
  P : List St
  E : List Int
  Q : List Se
def d0 : Dz := ⟨[], [], [], []⟩
def akC (ws : List Int) (ps : List St) (es : List Int) (qs : List Se) : Int := if (pmB ws ps && blkB es qs) = true then (if 0 < ps.length ∨ 0 < qs.length then 15 else 0) else 1
def rplR (ws : List Int) (ps : List St) (es : List Int) (qs : List Se) : List Mi × Int := if akC ws ps es qs = 0 then (rpL ws ps, rpC ws ps) else ([], akC ws ps es qs)
theorem rp_len (ws : List Int) (ps : List St) : (rpL ws ps).length ≤ 36 := by
  rcases rp_cases ws ps with ⟨_, _, e⟩ | ⟨_, N, _, ⟨_, _, e⟩ | ⟨_, _, e⟩ | ⟨_, _, _, _, e⟩ | ⟨_, _, _, _, e⟩⟩
  · rw [e]; simp
  · rw [e]; simp
  · rw [e]; simp
  · rw [e]; simp
  · rw [e]; have := applyL_len (rdL ws ps N); rw [rdL_len] at this; omega
end Go.Proofs.Ytlkmnpanddchdaa
