/- An operation is read: the answer, by the model. -/
import Derived.Test.YtjkdmhdehihcbaaGreatDoorZBE
namespace Go.Proofs.YtjkdmhdehihcbaaGreatDoor
open Go.RowKit
def rpP (s : ByteArray) (e : Ending) : Prop := ∃ (k : Int) (p t : ByteArray) (g x c : Int), e = .returned (.tuple #[.agg #[.int .i64 k, .string p, .string t, .int .i64 g, .int .i64 x], .int .i64 c]) ∧
  ((65536 < s.size ∧ k = 0 ∧ p = ⟨#[]⟩ ∧ t = ⟨#[]⟩ ∧ g = 0 ∧ x = 0 ∧ c = 2) ∨
   (s.size ≤ 65536 ∧ rdW (wds s) = none ∧ k = 0 ∧ p = ⟨#[]⟩ ∧ t = ⟨#[]⟩ ∧ g = 0 ∧ x = 0 ∧ c = 3) ∨
   (s.size ≤ 65536 ∧ ∃ n g' x' : Nat, rdW (wds s) = some (n, p, t, g', x') ∧ k = n ∧ g = g' ∧ x = x' ∧ c = 0))
end Go.Proofs.YtjkdmhdehihcbaaGreatDoor
