/- What a right device is: by the program, and by the model. -/
import Derived.Test.YtjfjfokinchhoaaDoorBlkT
import Derived.Test.YtjfjfokinchhoaaDoorWord
namespace Go.Proofs.YtjfjfokinchhoaaDoor
open Go.RowKit

/-- A right device. -/
def blkB (ws : List Int) (ps : List Se) : Bool := decide (ws.length = 32 ∧ ps.length ≤ 400 ∧ (∀ k (h : k < ws.length), wordB ws[k] = true) ∧ ∀ k (h : k < ps.length), secB ps[k].at_ = true ∧ wordB ps[k].val = true)
theorem blkB_mk {ws : List Int} {ps : List Se} (h1 : ws.length = 32) (h2 : ps.length ≤ 400) (h3 : ∀ k (h : k < ws.length), wordB ws[k] = true) (h4 : ∀ k (h : k < ps.length), secB ps[k].at_ = true ∧ wordB ps[k].val = true) : blkB ws ps = true := decide_eq_true ⟨h1, h2, h3, h4⟩
theorem blkB_len {ws : List Int} {ps : List Se} (h : blkB ws ps = true) : ws.length = 32 ∧ ps.length ≤ 400 := ⟨(of_decide_eq_true h).1, (of_decide_eq_true h).2.1⟩
theorem blkB_word {ws : List Int} {ps : List Se} (h : blkB ws ps = true) (k : Nat) (hk : k < ws.length) : wordB ws[k] = true := (of_decide_eq_true h).2.2.1 k hk
theorem blkB_store {ws : List Int} {ps : List Se} (h : blkB ws ps = true) (k : Nat) (hk : k < ps.length) : secB ps[k].at_ = true ∧ wordB ps[k].val = true := (of_decide_eq_true h).2.2.2 k hk
theorem blkB_len1 {ws : List Int} {ps : List Se} (h : ¬ ws.length = 32) : blkB ws ps = false := decide_eq_false (fun x => h x.1)
theorem blkB_len2 {ws : List Int} {ps : List Se} (h : 400 < ps.length) : blkB ws ps = false := decide_eq_false (fun x => absurd x.2.1 (by omega))
theorem blkB_w {ws : List Int} {ps : List Se} {k : Nat} (hk : k < ws.length) (h : wordB ws[k] = false) : blkB ws ps = false := decide_eq_false (fun x => by have := x.2.2.1 k hk; rw [h] at this; cases this)
theorem blkB_a {ws : List Int} {ps : List Se} {k : Nat} (hk : k < ps.length) (h : secB ps[k].at_ = false) : blkB ws ps = false := decide_eq_false (fun x => by have := (x.2.2.2 k hk).1; rw [h] at this; cases this)
theorem blkB_v {ws : List Int} {ps : List Se} {k : Nat} (hk : k < ps.length) (h : wordB ps[k].val = false) : blkB ws ps = false := decide_eq_false (fun x => by have := (x.2.2.2 k hk).2; rw [h] at this; cases this)

end Go.Proofs.YtjfjfokinchhoaaDoor
