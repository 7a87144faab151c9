/- Numbers in a list, none twice; the entries that are mapped: by the program. -/
import Derived.Test.YtfcjhhiekjbbiaaImD
import Derived.Test.YtfcjhhiekjbbiaaWd
import Derived.Test.YtfcjhhiekjbbiaaIntS
import Derived.Test.YtfcjhhiekjbbiaaImJ
namespace Go.Proofs.Ytfcjhhiekjbbiaa
open Go.RowKit

theorem Rd.take {w : World} {size : Nat} {ao : Option Addr} {n c : Nat} {xs : List Value} {m : Nat} (h : Rd w size (.slice ao n c) n xs) (hm : m ≤ n) : Rd w size (.slice ao m c) m (xs.take (m * size)) := by
  obtain ⟨h1, ao', cap, e, h2, h3⟩ := h
  cases e
  have hms : m * size ≤ n * size := Nat.mul_le_mul_right _ hm
  refine ⟨by rw [List.length_take, h1]; omega, ao, c, rfl, ⟨by omega, h2.2⟩, fun hp => ?_⟩
  obtain ⟨b, o, e1, e2, e3⟩ := h3 (by omega)
  exact ⟨b, o, e1, e2, fun j hj => by rw [e3 j (by omega), List.getElem?_take, if_pos hj]⟩
theorem RdI.take {w : World} {ao : Option Addr} {c : Nat} {zs : List Int} {m : Nat} (h : RdI w (.slice ao zs.length c) zs) (hm : m ≤ zs.length) : RdI w (.slice ao m c) (zs.take m) := by
  have := Rd.take h hm
  unfold RdI
  have e : (zs.take m).length = m := by rw [List.length_take]; omega
  have e2 : ints (zs.take m) = (ints zs).take (m * 1) := by rw [Nat.mul_one]; simp [ints, List.map_take]
  rw [e, e2]
  exact this
end Go.Proofs.Ytfcjhhiekjbbiaa
