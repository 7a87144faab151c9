/- Several texts laid together: MtA, ImE. -/
import Derived.Test.YtkchiplcjlgflaaDoorZAC
import Derived.Test.YtkchiplcjlgflaaDoorDgA
import Derived.Test.YtkchiplcjlgflaaDoorOrdT
import Derived.Lib.Join
import Derived.Deep.RegionHeld3
import Derived.Test.YtkchiplcjlgflaaDoorMem
import Derived.Test.YtkchiplcjlgflaaDoorNm
import Derived.Laws.OwnMore
import Derived.BigQuiet
import Derived.Deep.QuietTactic
import Derived.Deep.OwnRows
import Derived.Deep.RegionWith
namespace Go.Proofs.YtkchiplcjlgflaaDoor
open Go.RowKit
def joinB (ws : List ByteArray) : ByteArray := ⟨(Lib.join (ws.map (·.data.toList)) [32]).toArray⟩
theorem joinB_one (x : ByteArray) : joinB [x] = x := by
  unfold joinB
  rw [List.map_cons, List.map_nil, Lib.join_one]
theorem joinB_two (x y : ByteArray) : joinB [x, y] = x ++ ⟨#[32]⟩ ++ y := by
  unfold joinB
  rw [List.map_cons, List.map_cons, List.map_nil, Lib.join_cons]
  apply ByteArray.ext
  simp [Lib.joinTail]
theorem dig_it {z : Int} (h0 : 0 ≤ z) (h1 : z ≤ 9223372036854775807) (w : World) : Calls Tryd.prog 25 #[.int .i64 z] w fun e w' => e = .returned (.string (itT z)) ∧ Below w.heap.size w w' := by
  obtain ⟨n, rfl⟩ : ∃ n : Nat, z = (n : Int) := ⟨z.toNat, by omega⟩
  rw [it_nat]
  exact l00Digits_nat 19 n w (by omega) (by omega) (by omega)
theorem it_size1 {z : Int} (h0 : 0 ≤ z) (h1 : z ≤ 9223372036854775807) : (itT z).size ≤ 20 := by
  obtain ⟨n, rfl⟩ : ∃ n : Nat, z = (n : Int) := ⟨z.toNat, by omega⟩
  rw [it_nat]
  exact dg_len 19 n (by omega)
end Go.Proofs.YtkchiplcjlgflaaDoor

namespace Go.Proofs.YtkchiplcjlgflaaDoor
open Go.RowKit
theorem noBytes (s : ByteArray) : s.toList = [] ↔ s.size = 0 := by
  rw [ByteArray.toList_eq]
  obtain ⟨⟨x⟩⟩ := s
  show x = [] ↔ x.length = 0
  exact List.length_eq_zero_iff.symm
end Go.Proofs.YtkchiplcjlgflaaDoor
