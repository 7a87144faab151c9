/- Several texts laid together: MtA, ImA, ImE. -/
import Derived.Test.YtjdkgdbacidfiaaDoorZAB
import Derived.Test.YtjdkgdbacidfiaaDoorDgA
import Derived.Test.YtjdkgdbacidfiaaDoorOrdT
import Derived.Lib.Join
import Derived.Deep.RegionHeld3
import Derived.Test.YtjdkgdbacidfiaaDoorMem
import Derived.BigQuiet
import Derived.Deep.QuietTactic
import Derived.Deep.OwnRows
import Derived.Test.YtjdkgdbacidfiaaDoorNm
import Derived.Laws.OwnMore
import Derived.Deep.RegionWith
namespace Go.Proofs.YtjdkgdbacidfiaaDoor
open Go.RowKit
def joinB (ws : List ByteArray) : ByteArray := ⟨(Lib.join (ws.map (·.data.toList)) [32]).toArray⟩
theorem joinB_two (x y : ByteArray) : joinB [x, y] = x ++ ⟨#[32]⟩ ++ y := by
  unfold joinB
  rw [List.map_cons, List.map_cons, List.map_nil, Lib.join_cons]
  apply ByteArray.ext
  simp [Lib.joinTail]
theorem joinB_three (x y z : ByteArray) : joinB [x, y, z] = x ++ ⟨#[32]⟩ ++ y ++ ⟨#[32]⟩ ++ z := by
  unfold joinB
  rw [List.map_cons, List.map_cons, List.map_cons, List.map_nil, Lib.join_cons]
  apply ByteArray.ext
  simp [Lib.joinTail]
theorem dig_it {z : Int} (h0 : 0 ≤ z) (h1 : z ≤ 9223372036854775807) (w : World) : Calls Tryd.prog 39 #[.int .i64 z] w fun e w' => e = .returned (.string (itT z)) ∧ Below w.heap.size w w' := by
  obtain ⟨n, rfl⟩ : ∃ n : Nat, z = (n : Int) := ⟨z.toNat, by omega⟩
  rw [it_nat]
  exact l00Digits_nat 19 n w (by omega) (by omega) (by omega)
theorem it_size1 {z : Int} (h0 : 0 ≤ z) (h1 : z ≤ 9223372036854775807) : (itT z).size ≤ 20 := by
  obtain ⟨n, rfl⟩ : ∃ n : Nat, z = (n : Int) := ⟨z.toNat, by omega⟩
  rw [it_nat]
  exact dg_len 19 n (by omega)
end Go.Proofs.YtjdkgdbacidfiaaDoor

namespace Go.Proofs.YtjdkgdbacidfiaaDoor
open Go.RowKit
theorem eight_at {w : World} {b : Nat} {t : TypeId} {xs : List Value} (h : w.heap[b]? = some (.cells xs.toArray t (0, 0))) (j : Nat) : w.cell? ⟨b, j, none⟩ = xs[j]? ∧ w.frozen? ⟨b, j, none⟩ = false := by
  simp [World.cell?, World.frozen?, h]
end Go.Proofs.YtjdkgdbacidfiaaDoor

namespace Go.Proofs.YtjdkgdbacidfiaaDoor
open Go.RowKit
theorem noBytes (s : ByteArray) : s.toList = [] ↔ s.size = 0 := by
  rw [ByteArray.toList_eq]
  obtain ⟨⟨x⟩⟩ := s
  show x = [] ↔ x.length = 0
  exact List.length_eq_zero_iff.symm
end Go.Proofs.YtjdkgdbacidfiaaDoor
