/- Updates from a place on, and the updates of an inode: by the program. -/
import Derived.Test.YtpljkdbeekplbaaDoorPiB
import Derived.Test.YtpljkdbeekplbaaDoorImC
import Derived.Laws.CopyRow
import Derived.Laws.CopyOwn
namespace Go.Proofs.YtpljkdbeekplbaaDoor
open Go.RowKit

/-- The first words from a place on. -/
def ufL (at_ : Int) (zs : List Int) (k : Nat) : List Se := (List.range k).map (fun j : Nat => ⟨at_ + (j : Int), zs.getD j 0⟩)
theorem ufL_len (a : Int) (zs : List Int) (k : Nat) : (ufL a zs k).length = k := by simp [ufL]
theorem ufL_succ (a : Int) (zs : List Int) (k : Nat) (h : k < zs.length) : ufL a zs (k + 1) = ufL a zs k ++ [⟨a + (k : Int), zs[k]⟩] := by
  unfold ufL; rw [List.range_succ, List.map_append]
  simp [List.getD_eq_getElem?_getD, List.getElem?_eq_getElem h]

end Go.Proofs.YtpljkdbeekplbaaDoor
