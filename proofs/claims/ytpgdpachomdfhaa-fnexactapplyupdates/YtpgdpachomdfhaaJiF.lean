/- Plans of flushes: by the program, which marks the lines that it has flushed. -/
import Derived.Test.YtpgdpachomdfhaaJrF
import Derived.Test.YtpgdpachomdfhaaEv
namespace Go.Proofs.Ytpgdpachomdfhaa
open Go.RowKit

theorem placesB_allP (zs : List Int) : placesB zs = allP zs := by
  unfold placesB allP
  rw [decide_eq_decide]
  exact ⟨fun h k hk => placeB_true (h k hk), fun h k hk => decide_eq_true (h k hk)⟩
/-- As many times 'false' as there are lines. -/
def fals42 : Array Value := (List.replicate 42 (Value.bool false)).toArray
theorem fals42_size : fals42.size = 42 := by unfold fals42; rw [List.size_toArray, List.length_replicate]
theorem fals42_at (k : Nat) (hk : k < 42) : fals42[k]? = some (.bool false) := by unfold fals42; rw [List.getElem?_toArray, List.getElem?_replicate, if_pos hk]
/-- A place ahead has this line. -/
def lineB (zs : List Int) (m j : Nat) : Bool := (List.range m).any (fun i => zs[i]?.getD 0 / 8 == (j : Int))
theorem lineB_succ (zs : List Int) (m j : Nat) : lineB zs (m + 1) j = (lineB zs m j || (zs[m]?.getD 0 / 8 == (j : Int))) := by
  unfold lineB
  rw [List.range_succ, List.any_append]
  simp
theorem lineB_known (zs : List Int) (m : Nat) (hm : m < zs.length) (h0 : 0 ≤ zs[m]) : lineB zs m (zs[m] / 8).toNat = knownL zs m := by
  have e : (((zs[m] / 8).toNat : Nat) : Int) = zs[m] / 8 := by omega
  unfold lineB knownL
  rw [e, List.getElem?_eq_getElem hm]
  rfl

end Go.Proofs.Ytpgdpachomdfhaa
