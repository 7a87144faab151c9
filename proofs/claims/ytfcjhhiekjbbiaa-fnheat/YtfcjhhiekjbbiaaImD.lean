/- What an inode's or an entry's updates are, by the model. -/
import Derived.Test.YtfcjhhiekjbbiaaImB
import Derived.Test.YtfcjhhiekjbbiaaSecS
import Derived.Test.YtfcjhhiekjbbiaaMem
import Derived.Test.YtfcjhhiekjbbiaaWdM
import Derived.Deep.RegionHeld3
import Derived.Laws.OwnMore
import Derived.Deep.RegionWith
import Derived.Laws.IdiomStrings
import Derived.Laws.BytesArg
import Derived.Deep.OwnRows
namespace Go.Proofs.Ytfcjhhiekjbbiaa
open Go.RowKit

theorem row_none (w : World) (t : TypeId) (size : Nat) : Row (w.alloc (.cells #[] t)) t size w.heap.size (w.alloc (.cells #[] t)).heap.size (.slice (some ⟨w.heap.size, 0, none⟩) 0 0) 0 [] :=
  own_block (World.ownsRow_lit w #[] 0 (Nat.le_refl _) (by simp [maxLen]) (by simp))
end Go.Proofs.Ytfcjhhiekjbbiaa
