/- Numbers told in digits: by the model (spec.l00Digits is Lib.itoa). -/
import Derived.Test.YtkchiplcjlgflaaGreatDoorNm
import Derived.Test.YtkchiplcjlgflaaGreatDoorOrdT
import Derived.Lib.ItoaNum
import Derived.Deep.DeepCutAuto
namespace Go.Proofs.YtkchiplcjlgflaaGreatDoor
open Go.RowKit
theorem wpAnyT_two {P : Program} {ops : Array Oper} {Q : Exit → Act → World → Prop} {md : Region.Mode} {S : World → Prop} {z i j : Nat} {oi oj : Oper} {fuel : Nat} {l : Array Bool} {a : Act} {w : World} (hoi : ops[i]? = some oi) (hoj : ops[j]? = some oj) (hr : Region.ready md ops l = [i, j])
    (h1 : ∀ K' : Act → World → Prop, Hid (∀ a w, (i ≠ z → S w) → wpAnyT P md ops Q S z fuel (l.setIfInBounds i true) a w → K' a w) → if Region.wanted oi (yielded ops a.tmps) = true then Oper.wp P oi a w K' Q else K' (a.put oi.dst undef) w)
    (h2 : ∀ K' : Act → World → Prop, Hid (∀ a w, (j ≠ z → S w) → wpAnyT P md ops Q S z fuel (l.setIfInBounds j true) a w → K' a w) → if Region.wanted oj (yielded ops a.tmps) = true then Oper.wp P oj a w K' Q else K' (a.put oj.dst undef) w) :
    wpAnyT P md ops Q S z (fuel + 1) l a w := by
  refine ⟨fun h0 => (by rw [hr] at h0; cases h0), fun k hk => ?_⟩
  rw [hr] at hk
  rcases List.mem_cons.1 hk with rfl | hk
  · exact wpOp_step hoi (fun K' hK => h1 K' (fun a w hS hW => hK a w ⟨hS, hW⟩))
  · obtain rfl := List.mem_singleton.1 hk
    exact wpOp_step hoj (fun K' hK => h2 K' (fun a w hS hW => hK a w ⟨hS, hW⟩))
def dgT (u : Nat) : ByteArray := ⟨(Lib.decDigits u).toArray⟩
def itT (n : Int) : ByteArray := ⟨(Lib.itoa n).toArray⟩
theorem dg_one {u : Nat} (h : u < 10) : dgT u = ⟨#[UInt8.ofNat (48 + u)]⟩ := by
  unfold dgT
  rw [Lib.decDigits, dif_pos h]
theorem dg_more {u : Nat} (h : ¬ u < 10) : dgT u = dgT (u / 10) ++ ⟨#[UInt8.ofNat (48 + u % 10)]⟩ := by
  unfold dgT
  rw [Lib.decDigits, dif_neg h]
  apply ByteArray.ext
  simp
theorem dg_len : ∀ (f u : Nat), u < 10 ^ f → (dgT u).size ≤ f + 1
  | 0, u, h => by
    rw [dg_one (by simpa using Nat.lt_of_lt_of_le h (by decide))]
    exact Nat.le_refl _
  | f + 1, u, h => by
    by_cases c : u < 10
    · rw [dg_one c]
      show 1 ≤ _
      omega
    · rw [dg_more c, ByteArray.size_append]
      have := dg_len f (u / 10) (by rw [Nat.pow_succ] at h; omega)
      show _ + 1 ≤ _
      omega
theorem it_nat (u : Nat) : itT u = dgT u := by
  unfold itT dgT Lib.itoa
  rw [if_neg (by omega)]
  rfl
theorem it_neg {n : Int} (h : n < 0) : itT n = ⟨#[45]⟩ ++ dgT n.natAbs := by
  unfold itT dgT Lib.itoa
  rw [if_pos h]
  apply ByteArray.ext
  simp
end Go.Proofs.YtkchiplcjlgflaaGreatDoor
