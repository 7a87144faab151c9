/- The helpers of the laws over slices of numbers: copied, held against one another, marked, looked at. -/
import Derived.Test.YtpgdpachomdfhaaGreatDoorMem
import Derived.Deep.OwnRows
import Derived.Deep.QuietTactic
import Derived.BigQuiet
namespace Go.Proofs.YtpgdpachomdfhaaGreatDoor
open Go.RowKit

theorem info3 : (Tryz.prog.info? 3).map (fun i => (i.zero, i.size, i.bytes)) = some (some (.int .i64 0), 1, 8) := by kernel_rfl

/-- A row that is as long as its block. -/
theorem row_of_rowIs {w : World} {g : Nat} {zs : List Int} {f : Nat → Value} {lo hi : Nat} (h : w.rowIs g 3 zs.length f) (hf : ∀ i (h : i < zs.length), f i = .int .i64 zs[i]) (h1 : lo ≤ g) (h2 : g < hi) (hm : zs.length ≤ maxLen) :
    Row w 3 1 lo hi (.slice (some ⟨g, 0, none⟩) zs.length zs.length) zs.length (ints zs) := by
  obtain ⟨c, hb, hn, hc⟩ := h
  refine ⟨⟨by simp [ints], .inr ⟨g, zs.length, c, rfl, h1, hb, Nat.le_refl _, hm, by omega, ?_⟩⟩, fun k hk => by cases hk; exact h2⟩
  apply List.ext_getElem?
  intro i
  by_cases hi : i < zs.length
  · rw [List.getElem?_take, if_pos (by omega), ints_at zs i hi, Array.getElem?_toList, hc i hi, hf i hi]
  · rw [List.getElem?_eq_none (by simp; omega), List.getElem?_eq_none (by simp [ints]; omega)]

/-- n numbers, rising by one from k on. -/
def marks (k : Int) (n : Nat) : List Int := (List.range n).map (fun (i : Nat) => k + (i : Int))
theorem marks_len (k : Int) (n : Nat) : (marks k n).length = n := by simp [marks]
theorem marks_at (k : Int) (n i : Nat) (h : i < (marks k n).length) : (marks k n)[i] = k + (i : Int) := by simp [marks]

theorem ints_set_at {zs : List Value} {j : Nat} {u : Value} {i : Nat} (hi : i < zs.length) : (zs.set j u)[i]? = if i = j then some u else zs[i]? := by
  by_cases e : i = j
  · subst e; simp [hi]
  · simp [e, show ¬ j = i from fun h => e h.symm]

/-- What is left when n is taken away, or -1. -/
def less (left : Int) (n : Nat) : Int := if left < n then -1 else left - n
theorem ints_one (zs : List Int) : ∀ u ∈ ints zs, u.oneCell' = true := ints_oneCell _ zs
theorem RdI.form {w : World} {v : Value} {zs : List Int} (h : RdI w v zs) {n : Nat} (hn : zs.length = n) : ∃ ao cap, v = .slice ao n cap := by
  obtain ⟨ao, cap, e, _⟩ := h.shape
  exact ⟨ao, cap, by rw [← hn]; exact e⟩
theorem ints_set (zs : List Int) (j : Nat) (x : Int) : (ints zs).set j (.int .i64 x) = ints (zs.set j x) := by simp [ints, List.map_set]
theorem ints_snoc (zs : List Int) (x : Int) : ints (zs ++ [x]) = ints zs ++ [.int .i64 x] := by simp [ints]
/-- One number, laid in a block of its own, as a slice of one. -/
theorem rd_int (w1 : World) (x : Int) : Rd (w1.alloc (.cells #[.int .i64 x] 3)) 1 (.slice (some ⟨w1.heap.size, 0, none⟩) 1 1) 1 [.int .i64 x] := by
  refine ⟨rfl, _, _, rfl, ⟨Nat.le_refl _, fun e => by cases e⟩, fun _ => ⟨w1.heap.size, 0, rfl, by simp, fun j hj => ?_⟩⟩
  have hj0 : j = 0 := by omega
  subst hj0
  have e := at_new (w := w1) (o := .cells #[.int .i64 x] 3) rfl
  simp only [World.cell?, Nat.add_zero]
  rw [e]
  rfl
theorem RdI_marks {w : World} {lo hi : Nat} {v : Value} {k : Int} {n : Nat} (h : Row w 3 1 lo hi v n (ints (marks k n))) : RdI w v (marks k n) := by
  unfold RdI
  rw [marks_len]
  exact h.rd
end Go.Proofs.YtpgdpachomdfhaaGreatDoor
