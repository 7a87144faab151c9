/- Several texts laid together: FqC, JrD. -/
import Derived.Test.YtlkmnpanddchdaaFqA
import Derived.Test.YtlkmnpanddchdaaZAU
import Derived.Test.YtlkmnpanddchdaaStoreS
import Derived.Test.YtlkmnpanddchdaaZAO
namespace Go.Proofs.Ytlkmnpanddchdaa
open Go.RowKit

/-- A box stays where nothing below is written. -/
theorem box_below {c w' : World} {b : Nat} {o : Obj} {B : Nat} (h : c.heap[b]? = some o) (hb : Below B c w') (hB : b < B) : w'.heap[b]? = some o := (hb.block b hB).trans h
theorem lt_box {c : World} {b : Nat} {o : Obj} (h : c.heap[b]? = some o) : b < c.heap.size := (Array.getElem?_eq_some_iff.1 h).1
/-- How far the marks of the devices, of the heat, of the steps go. -/
def kD (k0 : Int) (n m p q : Nat) : Int := k0 + n + 3 * m + p + 2 * q
/-- A file system that bears its marks. -/
def MkF (w : World) (v : Value) (k0 : Int) (n m p q a b : Nat) (cd vl : Int) (c : Nat) (fr : Bool) : Prop :=
  RdF w v (marks k0 n) (marksS (k0 + n) m) (marks (k0 + n + 3 * m) p) (marksE (k0 + n + 3 * m + p) q) (marks (kD k0 n m p q) a) (marksM (kD k0 n m p q + a) b) cd vl (marksT (kD k0 n m p q + a + 3 * b) c) fr
theorem MkF.below {w w' : World} {v : Value} {k0 : Int} {n m p q a b : Nat} {cd vl : Int} {c : Nat} {fr : Bool} (h : MkF w v k0 n m p q a b cd vl c fr) (hb : Below w.heap.size w w') : MkF w' v k0 n m p q a b cd vl c fr := RdF.below h hb
end Go.Proofs.Ytlkmnpanddchdaa

namespace Go.Proofs.Ytlkmnpanddchdaa

/-- An update: a place and a value; as a store that is not flushed. -/
def up (a v : Int) : St := ⟨a, v, false⟩
def stM (p : St) : Mi := ⟨1, p.at_, p.val⟩
/-- The flushes of the first places: one for each line that no place ahead has. -/
def knownL (ks : List Int) (i : Nat) : Bool := (List.range i).any (fun k => ks[k]?.getD 0 / 8 == ks[i]?.getD 0 / 8)
def nl (ks : List Int) : Nat → List Mi
  | 0 => []
  | i + 1 => if knownL ks i = true then nl ks i else nl ks i ++ [⟨2, ks[i]?.getD 0, 0⟩]
def flushL (ks : List Int) : List Mi := nl ks ks.length ++ [⟨3, 0, 0⟩]
/-- Stores, then their lines flushed, then a fence. -/
def seg (S : List St) : List Mi := S.map stM ++ flushL (S.map (·.at_))
def cnt (n : Int) : List St := [⟨8, n, false⟩]
def applyL (us : List St) : List Mi := seg us ++ seg (cnt 0)
end Go.Proofs.Ytlkmnpanddchdaa
