/- The helpers of the laws over slices of stores. -/
import Derived.Test.YtjdkgdbacidfiaaDoorZAB
namespace Go.Proofs.YtjdkgdbacidfiaaDoor
open Go.RowKit
def put3 (ys : List Value) (k : Nat) (a b c : Value) : List Value := ((ys.set (k * 3) a).set (k * 3 + 1) b).set (k * 3 + 2) c
theorem put3_at {ys : List Value} {k : Nat} {a b c : Value} {j : Nat} (hj : j < ys.length) : (put3 ys k a b c)[j]? = if j = k * 3 + 2 then some c else if j = k * 3 + 1 then some b else if j = k * 3 then some a else ys[j]? := by
  unfold put3
  rw [set_at (by simpa using hj), set_at (by simpa using hj), set_at hj]
theorem Row.put3 {w : World} {e : TypeId} {lo hi : Nat} {b n cap : Nat} {ys : List Value} (h : Row w e 3 lo hi (.slice (some ⟨b, 0, none⟩) n cap) n ys) (k : Nat) (x y z : Value) :
    Row (((w.setCell ⟨b, k * 3, none⟩ x).setCell ⟨b, k * 3 + 1, none⟩ y).setCell ⟨b, k * 3 + 2, none⟩ z) e 3 lo hi (.slice (some ⟨b, 0, none⟩) n cap) n (put3 ys k x y z) :=
  ((h.stored (k * 3) x).stored (k * 3 + 1) y).stored (k * 3 + 2) z
end Go.Proofs.YtjdkgdbacidfiaaDoor
