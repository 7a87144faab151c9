/- The journal's plans: what they are. -/
import Derived.Test.YtpgdpachomdfhaaStoreS
import Derived.Test.YtpgdpachomdfhaaMiS
namespace Go.Proofs.Ytpgdpachomdfhaa

/-- An update: a place and a value; as a store that is not flushed. -/
def up (a v : Int) : St := ⟨a, v, false⟩
def stM (p : St) : Mi := ⟨1, p.at_, p.val⟩
/-- The flushes of the first places: one for each line that no place ahead has. -/
def knownL (ks : List Int) (i : Nat) : Bool := (List.range i).any (fun k => ks[k]?.getD 0 / 8 == ks[i]?.getD 0 / 8)
def nl (ks : List Int) : Nat → List Mi
  | 0 => []
  | i + 1 => if knownL ks i = true then nl ks i else nl ks i ++ [⟨2, ks[i]?.getD 0, 0⟩]
def flushL (ks : List Int) : List Mi := nl ks ks.length ++ [⟨3, 0, 0⟩]
/-- Stores, then their lines flushed, then a fence. -/
def seg (S : List St) : List Mi := S.map stM ++ flushL (S.map (·.at_))
/-- The updates as they stand in the journal. -/
def jrn : Nat → List St → List St
  | _, [] => []
  | i, u :: us => ⟨9 + 2 * (i : Int), u.at_, false⟩ :: ⟨9 + 2 * (i : Int) + 1, u.val, false⟩ :: jrn (i + 1) us
def cnt (n : Int) : List St := [⟨8, n, false⟩]
def applyL (us : List St) : List Mi := seg us ++ seg (cnt 0)
def planL (us : List St) : List Mi := if us.length = 0 then [] else seg (jrn 0 us) ++ seg (cnt (us.length : Int)) ++ applyL us
end Go.Proofs.Ytpgdpachomdfhaa
