/- What is kept: asked, and looked up. -/
import Derived.Test.YtpgdpachomdfhaaWord
namespace Go.Proofs.Ytpgdpachomdfhaa
open Go.RowKit

/-- As many as is told at i, round and round. -/
def keepI (zs : List Int) (i : Nat) : Int := if zs.length = 0 then 0 else zs[i % zs.length]?.getD 0
def keepsB (zs : List Int) : Bool := decide (∀ k (h : k < zs.length), 0 ≤ zs[k] ∧ zs[k] ≤ 400)
theorem keepsB_mk {zs : List Int} (h : ∀ k (h : k < zs.length), 0 ≤ zs[k] ∧ zs[k] ≤ 400) : keepsB zs = true := decide_eq_true h
theorem keepsB_true {zs : List Int} (h : keepsB zs = true) : ∀ k (h : k < zs.length), 0 ≤ zs[k] ∧ zs[k] ≤ 400 := of_decide_eq_true h
theorem keepsB_not {zs : List Int} {k : Nat} (hk : k < zs.length) (h : ¬ (0 ≤ zs[k] ∧ zs[k] ≤ 400)) : keepsB zs = false := decide_eq_false (fun x => h (x k hk))
theorem keepI_of {zs : List Int} (h : keepsB zs = true) (i : Nat) : 0 ≤ keepI zs i ∧ keepI zs i ≤ 400 := by
  unfold keepI
  by_cases h0 : zs.length = 0
  · rw [if_pos h0]; omega
  · rw [if_neg h0]
    have hl : i % zs.length < zs.length := Nat.mod_lt _ (by omega)
    rw [List.getElem?_eq_getElem hl, Option.getD_some]
    exact keepsB_true h _ hl

theorem l01In400_any (n : Int) (w : World) (h : 0 ≤ n ∧ n ≤ 400) : Calls Try.prog 35 #[.int .i64 n, .int .i64 0, .int .i64 400] w fun e w' => e = .returned (.bool true) ∧ w' = w := by
  have e : inB n 0 400 = true := decide_eq_true h
  rw [← e]
  exact l01In_any n 0 400 w
theorem l01In400_not (n : Int) (w : World) (h : ¬ (0 ≤ n ∧ n ≤ 400)) : Calls Try.prog 35 #[.int .i64 n, .int .i64 0, .int .i64 400] w fun e w' => e = .returned (.bool false) ∧ w' = w := by
  have e : inB n 0 400 = false := decide_eq_false h
  rw [← e]
  exact l01In_any n 0 400 w

end Go.Proofs.Ytpgdpachomdfhaa
