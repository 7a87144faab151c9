/- Several texts laid together: RdA, OpenA, Open, MiS, JrD. -/
import Derived.Test.YtbjjdkemappelaaGreatDoorPmSeen
import Derived.Test.YtbjjdkemappelaaGreatDoorNmU
import Derived.Test.YtbjjdkemappelaaGreatDoorImP
import Derived.Test.YtbjjdkemappelaaGreatDoorZAB
import Derived.ProofKit
import Derived.OpenShut
import Derived.ShutString
import Derived.ChangeOld
import Derived.Lib.SmallJoins
import Derived.Deep.Slices
import Derived.Deep.Strs
import Derived.Test.YtbjjdkemappelaaGreatDoorZBD
import Derived.Test.YtbjjdkemappelaaGreatDoorZAI
import Derived.Test.YtbjjdkemappelaaGreatDoorZAG
namespace Go.Proofs.YtbjjdkemappelaaGreatDoor
open Go.RowKit
def wdI (ls : List Int) (z : Int) : Int := ls.getD z.toNat 0
theorem wdI_of {ls : List Int} {n : Nat} (h : n < ls.length) : wdI ls (n : Int) = ls[n] := by
  unfold wdI
  rw [Int.toNat_natCast, List.getD_eq_getElem?_getD, List.getElem?_eq_getElem h]; rfl
def inoOf (ls : List Int) (i : Nat) : Ino := ⟨wdI ls (48 + 12 * (i : Int)), wdI ls (48 + 12 * (i : Int) + 1), wdI ls (48 + 12 * (i : Int) + 2), wdI ls (48 + 12 * (i : Int) + 3), wdI ls (48 + 12 * (i : Int) + 4), wdI ls (48 + 12 * (i : Int) + 5), wdI ls (48 + 12 * (i : Int) + 6), wdI ls (48 + 12 * (i : Int) + 7), wdI ls (48 + 12 * (i : Int) + 8), wdI ls (48 + 12 * (i : Int) + 9), wdI ls (48 + 12 * (i : Int) + 10)⟩
def denOf (ls : List Int) (k : Nat) : Den := if wdI ls (240 + 3 * (k : Int) + 2) = 0 then ⟨0, ⟨#[]⟩, -1⟩ else ⟨wdI ls (240 + 3 * (k : Int)), unpS (wdI ls (240 + 3 * (k : Int) + 1)), wdI ls (240 + 3 * (k : Int) + 2) - 1⟩
def denGood (ls : List Int) (k : Nat) : Bool := if wdI ls (240 + 3 * (k : Int) + 2) = 0 then wdI ls (240 + 3 * (k : Int)) == 0 && wdI ls (240 + 3 * (k : Int) + 1) == 0 else goodN (wdI ls (240 + 3 * (k : Int) + 1))
def inosOf (ls : List Int) (n : Nat) : List Ino := (List.range n).map (inoOf ls)
def densOf (ls : List Int) (n : Nat) : List Den := (List.range n).map (denOf ls)
def allGood (ls : List Int) (n : Nat) : Bool := (List.range n).all (denGood ls)
theorem inosOf_succ (ls : List Int) (n : Nat) : inosOf ls (n + 1) = inosOf ls n ++ [inoOf ls n] := by unfold inosOf; rw [List.range_succ, List.map_append]; rfl
theorem densOf_succ (ls : List Int) (n : Nat) : densOf ls (n + 1) = densOf ls n ++ [denOf ls n] := by unfold densOf; rw [List.range_succ, List.map_append]; rfl
theorem inosOf_len (ls : List Int) (n : Nat) : (inosOf ls n).length = n := by simp [inosOf]
theorem densOf_len (ls : List Int) (n : Nat) : (densOf ls n).length = n := by simp [densOf]
theorem allGood_no {ls : List Int} {n k : Nat} (hk : k < n) (h : denGood ls k = false) : allGood ls n = false := by
  unfold allGood
  rw [List.all_eq_false]
  exact ⟨k, List.mem_range.2 hk, by rw [h]; simp⟩
theorem allGood_yes {ls : List Int} {n : Nat} (h : ∀ k, k < n → denGood ls k = true) : allGood ls n = true := by
  unfold allGood
  rw [List.all_eq_true]
  intro k hk
  exact h k (List.mem_range.1 hk)
def riB (ls : List Int) : Bool := wdI ls 0 == 7 && (allGood ls 24 && imgB (inosOf ls 16) (densOf ls 24))
def riC (ws : List Int) (ps : List St) : Int := if pmB ws ps = true then (if riB (layW ws ps) = true then 0 else 3) else 1
def riN (ws : List Int) (ps : List St) : List Ino := if riC ws ps = 0 then inosOf (layW ws ps) 16 else []
def riD (ws : List Int) (ps : List St) : List Den := if riC ws ps = 0 then densOf (layW ws ps) 24 else []
theorem lay_word {ws : List Int} {ps : List St} (h : pmB ws ps = true) : ∀ k (h : k < (layW ws ps).length), wordB (layW ws ps)[k] = true := by
  have h1 := pmB_word h
  have h2 : ∀ p ∈ ps, wordB p.val = true := fun p hp => by
    obtain ⟨i, hi, rfl⟩ := List.getElem_of_mem hp
    exact (pmB_store h i hi).2
  clear h
  have gen : ∀ (ps : List St) (ws : List Int), (∀ x ∈ ws, wordB x = true) → (∀ p ∈ ps, wordB p.val = true) → ∀ x ∈ layW ws ps, wordB x = true := by
    intro ps
    induction ps with
    | nil => intro ws h _ x hx; exact h x hx
    | cons p ps ih =>
      intro ws h1 h2 x hx
      refine ih (ws.set p.at_.toNat p.val) (fun y hy => ?_) (fun q hq => h2 q (List.mem_cons_of_mem _ hq)) x hx
      rcases List.mem_or_eq_of_mem_set hy with hy | hy
      · exact h1 y hy
      · rw [hy]; exact h2 p (List.mem_cons_self ..)
  intro k hk
  exact gen ps ws (fun x hx => by obtain ⟨i, hi, rfl⟩ := List.getElem_of_mem hx; exact h1 i hi) h2 _ (List.getElem_mem hk)
theorem wdI_range {ws : List Int} {ps : List St} (h : pmB ws ps = true) (z : Int) : 0 ≤ wdI (layW ws ps) z ∧ wdI (layW ws ps) z < 1099511627776 := by
  unfold wdI
  rw [List.getD_eq_getElem?_getD]
  by_cases c : z.toNat < (layW ws ps).length
  · rw [List.getElem?_eq_getElem c]
    have := lay_word h _ c
    unfold wordB at this
    simp at this
    simpa using this
  · rw [List.getElem?_eq_none (by omega)]
    exact ⟨by simp, by simp⟩
theorem inoOf_R {ws : List Int} {ps : List St} (h : pmB ws ps = true) (i : Nat) : (inoOf (layW ws ps) i).R := by
  intro z hz
  have all : ∀ y, -9223372036854775808 ≤ wdI (layW ws ps) y ∧ wdI (layW ws ps) y ≤ 9223372036854775807 := fun y => by have := wdI_range h y; omega
  simp only [Ino.map, inoOf, List.mem_cons, List.not_mem_nil, or_false] at hz
  rcases hz with rfl | rfl | rfl | rfl | rfl | rfl | rfl | rfl <;> exact all _
theorem unpS_len (n : Int) : (unpS n).size ≤ 6 := by
  unfold unpS
  split
  · rename_i h
    have := (of_decide_eq_true h).2.2
    show ((digs n.toNat).map fun d => UInt8.ofNat (96 + d)).toArray.size ≤ 6
    simpa using this
  · exact Nat.zero_le _
theorem denOf_name (ls : List Int) (k : Nat) : (denOf ls k).name.size ≤ maxLen := by
  unfold denOf
  split
  · exact Nat.zero_le _
  · have := unpS_len (wdI ls (240 + 3 * (k : Int) + 1))
    show (unpS _).size ≤ maxLen
    unfold maxLen
    omega
theorem ld_any (v : Value) (ws : List Int) (ps : List St) (z : Int) (w : World) (h : RdPm w v ws ps) (hp : pmB ws ps = true) (h0 : 0 ≤ z ∧ z < 336) :
    Calls Tryz.prog 100 #[v, .int .i64 z] w fun e w' => e = .returned (.int .i64 (wdI (layW ws ps) z)) ∧ Below w.heap.size w w' := by
  obtain ⟨n, rfl⟩ : ∃ n : Nat, z = (n : Int) := ⟨z.toNat, by omega⟩
  obtain ⟨l1, l2⟩ := pmB_len hp
  have hn : n < ws.length := by omega
  rw [wdI_of (by rw [layW_len]; exact hn), layW_at ps ws n hn (fun p hq => by obtain ⟨i, hi, rfl⟩ := List.getElem_of_mem hq; exact (pmB_at hp i hi).1)]
  exact l01Load_any v ws ps n w h (by omega) (by omega) hn
end Go.Proofs.YtbjjdkemappelaaGreatDoor

namespace Go.Proofs.YtbjjdkemappelaaGreatDoor
open Go.ChangeShapes Go.WideShapes Go.ChangeAt Go.RowKit Go.Joins
theorem own : ownKnob Tryz.prog.godebug = none := by kernel_rfl
theorem laidOut : laidOutB Tryz.prog = true := by kernel_rfl
theorem cells3 : Tryz.prog.cellsOf 3 = 1 := by kernel_rfl
theorem cells4 : Tryz.prog.cellsOf 4 = 1 := by kernel_rfl
theorem exists_list {α : Type} {P : Nat → α → Prop} : ∀ (n : Nat), (∀ i, i < n → ∃ x, P i x) → ∃ l : List α, l.length = n ∧ ∀ i (hi : i < l.length), P i l[i]
  | 0, _ => ⟨[], rfl, fun i hi => absurd hi (by simp)⟩
  | n + 1, h => by
    obtain ⟨l, hl, hp⟩ := exists_list n (fun i hi => h i (by omega))
    obtain ⟨x, hx⟩ := h n (by omega)
    refine ⟨l ++ [x], by simp [hl], fun i hi => ?_⟩
    by_cases e : i < l.length
    · rw [List.getElem_append_left e]; exact hp i e
    · have e' : i = n := by simp at hi; omega
      subst e'
      rw [List.getElem_append_right (by omega)]
      simpa [hl] using hx
section
variable {H : Type} {enc : TypeId × Value → H} {W : World} {sp : Nat → Bool} {held : Bool} {fuel : Nat} {v : Value} {y : DataW H × List MemPlace}
theorem open_RdI (h : DataW.trod enc Tryz.prog W 0 sp held fuel 22 [v] = some y) : ∃ zs : List Int, RdI W v zs ∧ zs.length ≤ maxLen ∧ ∀ z ∈ zs, (Lit.int .i64 z).wf = true := by
  rcases open_ints Tryz.underlying22 Tryz.underlying3 cells3 h with ⟨hcs, _⟩ | ⟨a, len, cap, zs, hcs, _, hl, hm, hz, _, hcell, hwz⟩
  · simp only [List.cons.injEq, and_true] at hcs
    subst hcs
    exact ⟨[], ⟨rfl, none, 0, rfl, ⟨Nat.le_refl _, fun _ => rfl⟩, fun h => absurd h (by simp)⟩, by simp, fun z hz => by simp at hz⟩
  · simp only [List.cons.injEq, and_true] at hcs
    subst hcs
    have hzl : len ≤ zs.length := by rw [hz]; split <;> omega
    have e : (zs.take len).length = len := by simp; omega
    refine ⟨zs.take len, ⟨by simp [ints], some a, cap, by rw [e], ⟨by rw [e]; exact hl, fun e => by cases e⟩, fun hn => ?_⟩, by rw [e]; omega, fun z hz => hwz z (List.mem_of_mem_take hz)⟩
    rw [e] at hn
    obtain ⟨b, off, spot⟩ := a
    have hc := hcell 0 (by omega)
    have hspot : spot = none := by simpa [Addr.add] using World.cell?_spot hc
    subst hspot
    refine ⟨b, off, rfl, World.block_lt_of_cell? W _ (by simpa [Addr.add] using hc), fun j hj => ?_⟩
    rw [e] at hj
    have hc := hcell j (by omega)
    rw [Addr.add_lit] at hc
    rw [hc, ints_at _ j (by rw [e]; omega)]
    simp [List.getD, show j < zs.length by omega]
end
end Go.Proofs.YtbjjdkemappelaaGreatDoor

namespace Go.Proofs.YtbjjdkemappelaaGreatDoor
open Go.ChangeShapes Go.WideShapes Go.ChangeAt Go.RowKit Go.Joins
theorem cellsStore : Tryz.prog.cellsOf 160 = 3 := by kernel_rfl
theorem cellsPm : Tryz.prog.cellsOf 25 = 2 := by kernel_rfl
section
variable {H : Type} {enc : TypeId × Value → H} {W : World} {sp : Nat → Bool} {held : Bool} {fuel : Nat} {v : Value} {y : DataW H × List MemPlace}
set_option maxRecDepth 100000 in
theorem open_RdS (h : DataW.trod enc Tryz.prog W 0 sp held fuel 23 [v] = some y) : ∃ ps : List St, RdS W v ps ∧ ps.length ≤ maxLen ∧ ∀ p ∈ ps, (Lit.int .i64 p.at_).wf = true ∧ (Lit.int .i64 p.val).wf = true := by
  rcases Deep.open_slice Tryz.underlying23 h with ⟨hcs, _⟩ | ⟨a, len, cap, m, n, D, Pl, hcs, _, hl, hm, hmm, _, hel⟩
  · simp only [List.cons.injEq, and_true] at hcs
    subst hcs
    exact ⟨[], ⟨rfl, none, 0, rfl, ⟨Nat.le_refl _, fun _ => rfl⟩, fun h => absurd h (by simp)⟩, by simp, fun p hp => by simp at hp⟩
  · simp only [List.cons.injEq, and_true] at hcs
    subst hcs
    have hlm : len ≤ m := by rw [hmm]; split <;> omega
    have one : ∀ i, i < len → ∃ s : St, (W.cell? ((a.add (i * 3)).add 0) = some (.int .i64 s.at_) ∧ W.cell? ((a.add (i * 3)).add 1) = some (.int .i64 s.val) ∧ W.cell? ((a.add (i * 3)).add 2) = some (.bool s.fl)) ∧ (Lit.int .i64 s.at_).wf = true ∧ (Lit.int .i64 s.val).wf = true := by
      intro i hi
      obtain ⟨cs, hcs, ht⟩ := hel i (by omega)
      rw [cellsStore] at hcs
      obtain ⟨_, hlen, hc⟩ := World.cells?_some hcs
      obtain ⟨y0, y1, y2, n', _, _, t0, t1, t2⟩ := Deep.trod_struct3 Tryz.underlying160 ht
      obtain ⟨z0, e0, _, w0⟩ := DataW.trod_int Tryz.underlying3 t0
      obtain ⟨z1, e1, _, w1⟩ := DataW.trod_int Tryz.underlying3 t1
      obtain ⟨z2, e2, _⟩ := DataW.trod_bool Tryz.underlying4 t2
      simp only [cells3, cells4] at e0 e1 e2
      match cs, hlen with
      | [c0, c1, c2], _ =>
        simp at e0 e1 e2
        subst e0 e1 e2
        exact ⟨⟨z0, z1, z2⟩, ⟨by simpa using hc 0 (by omega), by simpa using hc 1 (by omega), by simpa using hc 2 (by omega)⟩, w0, w1⟩
    obtain ⟨ps, hpl, hps⟩ := exists_list len one
    refine ⟨ps, ⟨sts_len ps, some a, cap, by rw [hpl], ⟨by rw [hpl]; exact hl, fun e => by cases e⟩, fun hn => ?_⟩, by rw [hpl]; omega, fun p hp => ?_⟩
    · obtain ⟨b, off, spot⟩ := a
      have hc := (hps 0 hn).1.1
      have hspot : spot = none := by simpa [Addr.add] using World.cell?_spot hc
      subst hspot
      refine ⟨b, off, rfl, World.block_lt_of_cell? W _ (by simpa [Addr.add] using hc), fun j hj => ?_⟩
      have hk : j / 3 < ps.length := by omega
      obtain ⟨⟨q0, q1, q2⟩, _⟩ := hps (j / 3) hk
      simp only [Addr.add_lit, Nat.add_zero] at q0 q1 q2
      have hj3 : j = j / 3 * 3 + j % 3 := by omega
      rcases (show j % 3 = 0 ∨ j % 3 = 1 ∨ j % 3 = 2 from by omega) with r | r | r
      · rw [hj3, r, Nat.add_zero, q0, sts_at0 ps _ hk]
      · rw [hj3, r, ← Nat.add_assoc, q1, sts_at1 ps _ hk]
      · rw [hj3, r, ← Nat.add_assoc, q2, sts_at2 ps _ hk]
    · obtain ⟨i, hi, rfl⟩ := List.getElem_of_mem hp
      exact (hps i hi).2
end
end Go.Proofs.YtbjjdkemappelaaGreatDoor

namespace Go.Proofs.YtbjjdkemappelaaGreatDoor
open Go.RowKit
structure Mi where
  kind : Int
  at_ : Int
  val : Int
end Go.Proofs.YtbjjdkemappelaaGreatDoor

namespace Go.Proofs.YtbjjdkemappelaaGreatDoor
def knownL (ks : List Int) (i : Nat) : Bool := (List.range i).any (fun k => ks[k]?.getD 0 / 8 == ks[i]?.getD 0 / 8)
def nl (ks : List Int) : Nat → List Mi
  | 0 => []
  | i + 1 => if knownL ks i = true then nl ks i else nl ks i ++ [⟨2, ks[i]?.getD 0, 0⟩]
end Go.Proofs.YtbjjdkemappelaaGreatDoor
