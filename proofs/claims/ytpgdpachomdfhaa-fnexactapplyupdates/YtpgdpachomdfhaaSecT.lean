/- The helpers of the laws over slices of writes: held against one another, marked, looked at. -/
import Derived.Test.YtpgdpachomdfhaaSecS
import Derived.Deep.RegionWith
namespace Go.Proofs.Ytpgdpachomdfhaa
open Go.RowKit

/-- The i-th of the marks from k on. -/
def markE (k : Int) (i : Nat) : Se := ⟨k + 2 * (i : Int), k + 2 * (i : Int) + 1⟩
def marksE (k : Int) (n : Nat) : List Se := (List.range n).map (markE k)
theorem marksE_len (k : Int) (n : Nat) : (marksE k n).length = n := by simp [marksE]
theorem marksE_at (k : Int) (n i : Nat) (h : i < (marksE k n).length) : (marksE k n)[i] = markE k i := by simp [marksE]

/-- Cells of writes: numbers. -/
def IsSes (xs : List Value) (n : Nat) : Prop := ∀ k, k < n → ∃ a b, xs[k * 2]? = some (.int .i64 a) ∧ xs[k * 2 + 1]? = some (.int .i64 b)
theorem isSes (ps : List Se) : IsSes (ses ps) ps.length := fun k hk => ⟨_, _, ses_at0 ps k hk, ses_at1 ps k hk⟩
theorem IsSes.put2 {ys : List Value} {n : Nat} (h : IsSes ys n) (hl : ys.length = n * 2) (k : Nat) (a b : Int) : IsSes (put2 ys k (.int .i64 a) (.int .i64 b)) n := by
  intro j hj
  rw [put2_at (by omega), put2_at (by omega)]
  by_cases e : j = k
  · subst e
    exact ⟨a, b, by simp, by simp⟩
  · obtain ⟨x, y, h0, h1⟩ := h j hj
    refine ⟨x, y, ?_, ?_⟩
    · rw [if_neg (by omega), if_neg (by omega)]; exact h0
    · rw [if_neg (by omega), if_neg (by omega)]; exact h1

end Go.Proofs.Ytpgdpachomdfhaa
