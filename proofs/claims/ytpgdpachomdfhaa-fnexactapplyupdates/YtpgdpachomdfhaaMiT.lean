/- The helpers of the laws over slices of steps: held against one another, marked, looked at. -/
import Derived.Test.YtpgdpachomdfhaaMiL
import Derived.Deep.RegionWith
namespace Go.Proofs.Ytpgdpachomdfhaa
open Go.RowKit

/-- The i-th of the marks from k on. -/
def markM (k : Int) (i : Nat) : Mi := ⟨k + 3 * (i : Int), k + 3 * (i : Int) + 1, k + 3 * (i : Int) + 1 + 1⟩
def marksM (k : Int) (n : Nat) : List Mi := (List.range n).map (markM k)
theorem marksM_len (k : Int) (n : Nat) : (marksM k n).length = n := by simp [marksM]
theorem marksM_at (k : Int) (n i : Nat) (h : i < (marksM k n).length) : (marksM k n)[i] = markM k i := by simp [marksM]

/-- Cells of steps: numbers and bools, in their turn. -/
def IsMis (xs : List Value) (n : Nat) : Prop := ∀ k, k < n → ∃ a b c, xs[k * 3]? = some (.int .i64 a) ∧ xs[k * 3 + 1]? = some (.int .i64 b) ∧ xs[k * 3 + 2]? = some (.int .i64 c)
theorem isMis (ps : List Mi) : IsMis (mis ps) ps.length := fun k hk => ⟨_, _, _, mis_at0 ps k hk, mis_at1 ps k hk, mis_at2 ps k hk⟩
theorem IsMis.put3 {ys : List Value} {n : Nat} (h : IsMis ys n) (hl : ys.length = n * 3) (k : Nat) (a b : Int) (c : Int) : IsMis (put3 ys k (.int .i64 a) (.int .i64 b) (.int .i64 c)) n := by
  intro j hj
  rw [put3_at (by omega), put3_at (by omega), put3_at (by omega)]
  by_cases e : j = k
  · subst e
    exact ⟨a, b, c, by simp, by simp, by simp⟩
  · obtain ⟨x, y, z, h0, h1, h2⟩ := h j hj
    refine ⟨x, y, z, ?_, ?_, ?_⟩
    · rw [if_neg (by omega), if_neg (by omega), if_neg (by omega)]; exact h0
    · rw [if_neg (by omega), if_neg (by omega), if_neg (by omega)]; exact h1
    · rw [if_neg (by omega), if_neg (by omega), if_neg (by omega)]; exact h2

end Go.Proofs.Ytpgdpachomdfhaa
