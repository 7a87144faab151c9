/- Several texts laid together: Mem, IntS, SecT, PiP, AdD, StoreT, PmT, MiS, MiL, MiT, BlkT, Dev, JiA, AdJ, AdK, OpenM, SBv. -/
import Derived.Test.YtbjjdkemappelaaGreatDoorAdG
import Derived.Test.YtbjjdkemappelaaGreatDoorZBW
import Derived.WalkKit
import Derived.WalkSpells
import Derived.WalkSmall
import Derived.Deep.OwnRows
import Derived.Deep.QuietTactic
import Derived.BigQuiet
import Derived.Deep.RegionWith
import Derived.Laws.IdiomStrings
import Derived.Laws.BytesArg
import Derived.Deep.RegionHeld3
import Derived.Laws.OwnMore
import Derived.Laws.CopyRow
import Derived.Laws.CopyOwn
import Derived.Deep.RegionLaw
import Derived.Laws.Cover3
import Derived.Laws.BitsAll
import Derived.Laws.Bits128
import Derived.Deep.DeepCutAuto
import Derived.Laws.BitsAllLaws
import Derived.Deep.LoopGhost
import Derived.Laws.Shifts
import Derived.ProofKit
import Derived.OpenShut
import Derived.ShutString
import Derived.ChangeOld
import Derived.Lib.SmallJoins
import Derived.Deep.Slices
import Derived.Deep.Strs
import Derived.Maps.Views
import Derived.Lib.SplitLaws
import Derived.Lib.IndexBytes
import Derived.Lib.Strings
import Derived.Sort.Walk0
import Derived.Laws.Cover1
import Derived.BigRegion
import Derived.Deep.AppendLies
import Derived.Lib.LaidTab
import Derived.ChangeSame
import Derived.Deep.DeepHandedRow
namespace Go.Proofs.YtbjjdkemappelaaGreatDoor
open Go.RowKit

theorem Outside.of_below {lo hi : Nat} {w w' : World} (h : Below w.heap.size w w') : Outside lo hi w w' := ⟨h.os, h.tape, h.output, h.size, fun k hk _ => h.block k hk⟩
theorem Outside.mono {lo hi lo' hi' : Nat} {w w' : World} (h : Outside lo hi w w') (h1 : lo' ≤ lo) (h2 : hi ≤ hi') : Outside lo' hi' w w' :=
  ⟨h.os, h.tape, h.output, h.size, fun k hk ho => h.block k hk (by omega)⟩
theorem grown_trans {a b c : World} {row : Option Nat} (h : a.grownBy b row) (k : b.grownBy c row) : a.grownBy c row :=
  ⟨k.os.trans h.os, k.tape.trans h.tape, k.output.trans h.output, Nat.le_trans h.size k.size, fun i hi' ho => (k.block i (Nat.lt_of_lt_of_le hi' h.size) ho).trans (h.block i hi' ho)⟩
theorem grown_setCell {w w' : World} {row : Option Nat} (h : w.grownBy w' row) {a : Addr} (ha : row = some a.block) (u : Value) : w.grownBy (w'.setCell a u) row :=
  grown_trans h ⟨rfl, rfl, rfl, by simp [World.setCell], fun k _ ho => Below.heap_setCell _ _ _ _ (fun e => ho (by rw [ha, e]))⟩
theorem Row.grown_outside {w0 w w' : World} {e : TypeId} {size lo hi : Nat} {v : Value} {n : Nat} {xs : List Value} (h : Row w0 e size lo hi v n xs) (hg : w.grownBy w' v.ownBlock) : Outside lo hi w w' :=
  ⟨hg.os, hg.tape, hg.output, hg.size, fun k hk ho => hg.block k hk (fun e => by have h1 := (h.1.lt k e.symm).1; have h2 := h.2 k e.symm; omega)⟩
end Go.Proofs.YtbjjdkemappelaaGreatDoor

namespace Go.Proofs.YtbjjdkemappelaaGreatDoor
open Go.RowKit

theorem ints_set_at {zs : List Value} {j : Nat} {u : Value} {i : Nat} (hi : i < zs.length) : (zs.set j u)[i]? = if i = j then some u else zs[i]? := by
  by_cases e : i = j
  · subst e; simp [hi]
  · simp [e, show ¬ j = i from fun h => e h.symm]

set_option maxHeartbeats 1000000 in
/-- A slice of the call's own is marked: number by number, and nothing else is written. -/
theorem markIntS_any {e0 : TypeId} (v : Value) (n : Nat) (xs : List Value) (k0 : Int) (lo hi : Nat) (w : World) (h : Row w e0 1 lo hi v n xs) (hx : ∀ u ∈ xs, ∃ z, u = .int .i64 z) (hn : n ≤ 2147483648) (h0 : 0 ≤ k0) (h1 : k0 ≤ 1099511627776) :
    Calls Tryz.prog 17 #[v, .int .i64 k0] w fun e w' => e = .returned (.int .i64 (k0 + n)) ∧ Row w' e0 1 lo hi v n (ints (marks k0 n)) ∧ w.grownBy w' v.ownBlock ∧ w'.heap.size = w.heap.size := by
  obtain ⟨hlen, ao, cap, rfl, hcap, hc⟩ := h.rd
  go_enter Tryz.func17, Tryz.ntmps17
  go_wp2
  go_loopw [1, 5] (fun c i wr => ∃ k : Nat, k ≤ n ∧ i = .int .i64 k ∧ c = .int .i64 (k0 + k) ∧ (∃ ys : List Value, Row wr e0 1 lo hi (.slice ao n cap) n ys ∧ (∀ u ∈ ys, ∃ z, u = .int .i64 z) ∧ ∀ j, j < k → ys[j]? = some (.int .i64 (k0 + j))) ∧ w.grownBy wr (Value.slice ao n cap).ownBlock ∧ wr.heap.size = w.heap.size) (fun _ i _ => n - (intOf i).toNat)
  case atStart => exact ⟨0, by omega, rfl, by simp, ⟨xs, h, hx, fun j hj => absurd hj (by omega)⟩, World.grownBy.refl _ _, rfl⟩
  case round =>
    obtain ⟨k, hk, rfl, rfl, ⟨ys, hrow, hys, hd⟩, hout, hz⟩ := hrel
    clear h hx hc hlen
    by_cases hlt : k < n
    · obtain ⟨hlen, ao', cap', e', _, hc⟩ := hrow.rd
      cases e'
      obtain ⟨b, o, rfl, hbl, hcell⟩ := hc (by omega)
      have hb1 : lo ≤ b ∧ b < hi := ⟨(hrow.1.lt b rfl).1, hrow.2 b rfl⟩
      have ho : o = 0 := by
        rcases hrow.1.2 with ⟨e, _⟩ | ⟨g, cp, cur, e, _⟩
        · cases e
        · cases e; rfl
      subst ho
      have hyl : k < ys.length := by omega
      obtain ⟨z, hz0⟩ := hys ys[k] (List.getElem_mem hyl)
      have hck : wr.cell? ⟨b, k, none⟩ = some (.int .i64 z) := by
        have := hcell k (by omega)
        rw [Nat.zero_add, List.getElem?_eq_getElem hyl, hz0] at this
        exact this
      have hfr : wr.frozen? ⟨b, k, none⟩ = false := hrow.1.frozenAt k
      have RH := hideIt (World.ownsRow.stored hrow.1 k (.int .i64 (k0 + k))).1
      have OH := hideIt (grown_setCell hout (a := ⟨b, k, none⟩) rfl (.int .i64 (k0 + k)))
      have YH := hideIt hys
      have DH := hideIt hd
      have LH := hideIt hrow.2
      clear hrow hys hd hcell hc hz0
      go_wp2
      go_roundw
      case rel =>
        refine ⟨k + 1, by omega, by go_num, by go_num, ⟨ys.set k (.int .i64 (k0 + k)), ⟨RH.out, LH.out⟩, fun u hu => ?_, fun j hj => ?_⟩, OH.out, by simp [hz]⟩
        · rcases List.mem_or_eq_of_mem_set hu with hu | rfl
          · exact YH.out u hu
          · exact ⟨_, rfl⟩
        · rw [ints_set_at (by omega)]
          split
          · rename_i e; rw [e]
          · exact DH.out j (by omega)
      case measure => simp [intOf]; omega
    · have e : k = n := by omega
      subst e
      have RH := hideIt hrow
      have DH := hideIt hd
      clear hrow hys hd
      go_wp2
      go_ret
      have e : ys = ints (marks k0 k) := by
        apply List.ext_getElem?
        intro j
        by_cases hj : j < k
        · rw [DH.out j hj, ints_at _ j (by rw [marks_len]; exact hj), marks_at]
        · have hyl := RH.out.1.1
          rw [List.getElem?_eq_none (by omega), List.getElem?_eq_none (by rw [ints_len, marks_len]; omega)]
      exact ⟨rfl, e ▸ RH.out, hout, hz⟩

theorem RdI_marks {w : World} {lo hi : Nat} {v : Value} {k : Int} {n : Nat} (h : Row w 3 1 lo hi v n (ints (marks k n))) : RdI w v (marks k n) := by
  unfold RdI
  rw [marks_len]
  exact h.rd
end Go.Proofs.YtbjjdkemappelaaGreatDoor

namespace Go.Proofs.YtbjjdkemappelaaGreatDoor
open Go.RowKit

/-- The i-th of the marks from k on. -/
def markE (k : Int) (i : Nat) : Se := ⟨k + 2 * (i : Int), k + 2 * (i : Int) + 1⟩
def marksE (k : Int) (n : Nat) : List Se := (List.range n).map (markE k)
theorem marksE_len (k : Int) (n : Nat) : (marksE k n).length = n := by simp [marksE]
theorem marksE_at (k : Int) (n i : Nat) (h : i < (marksE k n).length) : (marksE k n)[i] = markE k i := by simp [marksE]

/-- Cells of writes: numbers. -/
def IsSes (xs : List Value) (n : Nat) : Prop := ∀ k, k < n → ∃ a b, xs[k * 2]? = some (.int .i64 a) ∧ xs[k * 2 + 1]? = some (.int .i64 b)
theorem isSes (ps : List Se) : IsSes (ses ps) ps.length := fun k hk => ⟨_, _, ses_at0 ps k hk, ses_at1 ps k hk⟩
theorem IsSes.put2 {ys : List Value} {n : Nat} (h : IsSes ys n) (hl : ys.length = n * 2) (k : Nat) (a b : Int) : IsSes (put2 ys k (.int .i64 a) (.int .i64 b)) n := by
  intro j hj
  rw [put2_at (by omega), put2_at (by omega)]
  by_cases e : j = k
  · subst e
    exact ⟨a, b, by simp, by simp⟩
  · obtain ⟨x, y, h0, h1⟩ := h j hj
    refine ⟨x, y, ?_, ?_⟩
    · rw [if_neg (by omega), if_neg (by omega)]; exact h0
    · rw [if_neg (by omega), if_neg (by omega)]; exact h1

set_option maxHeartbeats 2000000 in
/-- A slice of writes of the call's own is marked, and nothing else is written. -/
theorem markSectorS_any (v : Value) (n : Nat) (xs : List Value) (k0 : Int) (lo hi : Nat) (w : World) (h : Row w 162 2 lo hi v n xs) (hx : IsSes xs n) (hn : n ≤ 2147483648) (h0 : 0 ≤ k0) (h1 : k0 ≤ 1099511627776) :
    Calls Tryz.prog 83 #[v, .int .i64 k0] w fun e w' => e = .returned (.int .i64 (k0 + 2 * n)) ∧ Row w' 162 2 lo hi v n (ses (marksE k0 n)) ∧ w.grownBy w' v.ownBlock ∧ w'.heap.size = w.heap.size := by
  obtain ⟨hlen, ao, cap, rfl, hcap, hc⟩ := h.rd
  go_enter Tryz.func83, Tryz.ntmps83
  go_wp2
  go_loopw [1, 5] (fun c i wr => ∃ k : Nat, k ≤ n ∧ i = .int .i64 k ∧ c = .int .i64 (k0 + 2 * k) ∧ (∃ ys : List Value, Row wr 162 2 lo hi (.slice ao n cap) n ys ∧ IsSes ys n ∧ ∀ j, j < k * 2 → ys[j]? = (ses (marksE k0 n))[j]?) ∧ w.grownBy wr (Value.slice ao n cap).ownBlock ∧ wr.heap.size = w.heap.size) (fun _ i _ => n - (intOf i).toNat)
  case atStart => exact ⟨0, by omega, rfl, by simp, ⟨xs, h, hx, fun j hj => absurd hj (by omega)⟩, World.grownBy.refl _ _, rfl⟩
  case round =>
    obtain ⟨k, hk, rfl, rfl, ⟨ys, hrow, hys, hd⟩, hout, hz⟩ := hrel
    clear h hx hc hlen
    by_cases hlt : k < n
    · obtain ⟨hlen, ao', cap', e', _, hc⟩ := hrow.rd
      cases e'
      obtain ⟨b, o, rfl, hbl, _⟩ := hc (by omega)
      obtain ⟨rfl, hb1, hb2, _, hfr, hcl⟩ := hrow.at
      obtain ⟨x, y, q0, q1⟩ := hys k hlt
      have f0 := hfr (k * 2)
      have f1 := hfr (k * 2 + 1)
      have e0 := (hcl (k * 2) (by omega)).trans q0
      have e1 := (hcl (k * 2 + 1) (by omega)).trans q1
      have PH := hideIt (hrow.put2 k (.int .i64 (k0 + 2 * k)) (.int .i64 (k0 + 2 * k + 1)))
      have OH := hideIt (grown_setCell (grown_setCell hout (a := ⟨b, k * 2, none⟩) rfl (.int .i64 (k0 + 2 * k))) (a := ⟨b, k * 2 + 1, none⟩) rfl (.int .i64 (k0 + 2 * k + 1)))
      have IH := hideIt (hys.put2 hlen k (k0 + 2 * k) (k0 + 2 * k + 1))
      have DH : Hid (∀ j, j < (k + 1) * 2 → (put2 ys k (.int .i64 (k0 + 2 * k)) (.int .i64 (k0 + 2 * k + 1)))[j]? = (ses (marksE k0 n))[j]?) := by
        have hk' : k < (marksE k0 n).length := by rw [marksE_len]; exact hlt
        have := put2_step (ps := marksE k0 n) hk' (by rw [marksE_len]; exact hlen) hd
        rw [marksE_at] at this
        exact this
      clear hrow hys hd hc hfr hcl q0 q1
      go_wp2
      go_roundw
      case rel => exact ⟨k + 1, by omega, by go_num, by go_num, ⟨_, PH.out, IH.out, DH.out⟩, OH.out, by simp [hz]⟩
      case measure => simp [intOf]; omega
    · have e : k = n := by omega
      subst e
      have hl := hrow.len
      have RH := hideIt hrow
      have DH := hideIt hd
      clear hrow hys hd
      go_wp2
      go_ret
      have e := ses_all (ps := marksE k0 k) (by rw [marksE_len]; exact hl) (by rw [marksE_len]; exact DH.out)
      exact ⟨rfl, e ▸ RH.out, hout, hz⟩

end Go.Proofs.YtbjjdkemappelaaGreatDoor

namespace Go.Proofs.YtbjjdkemappelaaGreatDoor
open Go.RowKit

theorem row_none3 (w : World) : Row (w.alloc (.cells #[] 3)) 3 1 w.heap.size (w.alloc (.cells #[] 3)).heap.size (.slice (some ⟨w.heap.size, 0, none⟩) 0 0) 0 [] :=
  own_block (World.ownsRow_lit w #[] 0 (Nat.le_refl _) (by simp [maxLen]) (by simp))

end Go.Proofs.YtbjjdkemappelaaGreatDoor

namespace Go.Proofs.YtbjjdkemappelaaGreatDoor
open Go.RowKit

theorem u_has (m : Nat) (hm : m < 18446744073709551616) (a : Int) : bits .and .u64 ((m : Int) / 2 ^ a.toNat) 1 = if m.testBit a.toNat = true then 1 else 0 := by
  have e : (m : Int) / 2 ^ a.toNat = ((m / 2 ^ a.toNat : Nat) : Int) := by push_cast; rfl
  have l := Nat.div_le_self m (2 ^ a.toNat)
  rw [u_and (m / 2 ^ a.toNat) (by omega) _ _ e (by decide) (by decide) 1 rfl, nat_mask1, Nat.testBit_eq_decide_div_mod_eq]
  by_cases c : m / 2 ^ a.toNat % 2 = 1
  · simp [c]
  · have : m / 2 ^ a.toNat % 2 = 0 := by omega
    simp [this]
set_option maxRecDepth 100000 in
set_option maxHeartbeats 4000000 in
theorem has_p (m : Nat) (a : Int) (w : World) (hm : m < 18446744073709551616) (h0 : 0 ≤ a) (h1 : a < 64) :
    Calls Tryz.prog 53 #[.agg #[.int .u64 m], .int .i64 a] w fun e w' => e = .returned (.bool (m.testBit a.toNat)) ∧ Below w.heap.size w w' := by
  have E := u_has m hm a
  have BW : Hid (Below w.heap.size w (w.alloc (.cells #[.int .u64 m] 86))) := (Below.refl _ _).alloc (Nat.le_refl _) _
  cases c : m.testBit a.toNat with
  | true =>
    rw [c, if_pos rfl] at E
    clear c
    go_enter Tryz.func53, Tryz.ntmps53
    go_wp2
    go_ret
    exact ⟨rfl, BW.out⟩
  | false =>
    rw [c, if_neg (by decide)] at E
    clear c
    go_enter Tryz.func53, Tryz.ntmps53
    go_wp2
    go_ret
    exact ⟨rfl, BW.out⟩

set_option maxRecDepth 100000 in
set_option maxHeartbeats 4000000 in
theorem has_s (m : Nat) (a : Int) (w : World) (hm : m < 18446744073709551616) (h0 : 0 ≤ a) (h1 : a < 64) :
    Calls Tryz.prog 55 #[.agg #[.int .u64 m], .int .i64 a] w fun e w' => e = .returned (.bool (m.testBit a.toNat)) ∧ Below w.heap.size w w' := by
  have E := u_has m hm a
  have BW : Hid (Below w.heap.size w (w.alloc (.cells #[.int .u64 m] 89))) := (Below.refl _ _).alloc (Nat.le_refl _) _
  cases c : m.testBit a.toNat with
  | true =>
    rw [c, if_pos rfl] at E
    clear c
    go_enter Tryz.func55, Tryz.ntmps55
    go_wp2
    go_ret
    exact ⟨rfl, BW.out⟩
  | false =>
    rw [c, if_neg (by decide)] at E
    clear c
    go_enter Tryz.func55, Tryz.ntmps55
    go_wp2
    go_ret
    exact ⟨rfl, BW.out⟩

end Go.Proofs.YtbjjdkemappelaaGreatDoor

namespace Go.Proofs.YtbjjdkemappelaaGreatDoor
open Go.RowKit

/-- The i-th of the marks from k on. -/
def markS (k : Int) (i : Nat) : St := ⟨k + 3 * (i : Int), k + 3 * (i : Int) + 1, (k + 3 * (i : Int) + 1 + 1) % 3 == 0⟩
def marksS (k : Int) (n : Nat) : List St := (List.range n).map (markS k)
theorem marksS_len (k : Int) (n : Nat) : (marksS k n).length = n := by simp [marksS]
theorem marksS_at (k : Int) (n i : Nat) (h : i < (marksS k n).length) : (marksS k n)[i] = markS k i := by simp [marksS]

/-- Cells of stores: numbers and bools, in their turn. -/
def IsSts (xs : List Value) (n : Nat) : Prop := ∀ k, k < n → ∃ a b c, xs[k * 3]? = some (.int .i64 a) ∧ xs[k * 3 + 1]? = some (.int .i64 b) ∧ xs[k * 3 + 2]? = some (.bool c)
theorem isSts (ps : List St) : IsSts (sts ps) ps.length := fun k hk => ⟨_, _, _, sts_at0 ps k hk, sts_at1 ps k hk, sts_at2 ps k hk⟩
theorem IsSts.put3 {ys : List Value} {n : Nat} (h : IsSts ys n) (hl : ys.length = n * 3) (k : Nat) (a b : Int) (c : Bool) : IsSts (put3 ys k (.int .i64 a) (.int .i64 b) (.bool c)) n := by
  intro j hj
  rw [put3_at (by omega), put3_at (by omega), put3_at (by omega)]
  by_cases e : j = k
  · subst e
    exact ⟨a, b, c, by simp, by simp, by simp⟩
  · obtain ⟨x, y, z, h0, h1, h2⟩ := h j hj
    refine ⟨x, y, z, ?_, ?_, ?_⟩
    · rw [if_neg (by omega), if_neg (by omega), if_neg (by omega)]; exact h0
    · rw [if_neg (by omega), if_neg (by omega), if_neg (by omega)]; exact h1
    · rw [if_neg (by omega), if_neg (by omega), if_neg (by omega)]; exact h2

set_option maxHeartbeats 2000000 in
/-- A slice of stores of the call's own is marked, and nothing else is written. -/
theorem markStoreS_any (v : Value) (n : Nat) (xs : List Value) (k0 : Int) (lo hi : Nat) (w : World) (h : Row w 158 3 lo hi v n xs) (hx : IsSts xs n) (hn : n ≤ 2147483648) (h0 : 0 ≤ k0) (h1 : k0 ≤ 1099511627776) :
    Calls Tryz.prog 82 #[v, .int .i64 k0] w fun e w' => e = .returned (.int .i64 (k0 + 3 * n)) ∧ Row w' 158 3 lo hi v n (sts (marksS k0 n)) ∧ w.grownBy w' v.ownBlock ∧ w'.heap.size = w.heap.size := by
  obtain ⟨hlen, ao, cap, rfl, hcap, hc⟩ := h.rd
  go_enter Tryz.func82, Tryz.ntmps82
  go_wp2
  go_loopw [1, 5] (fun c i wr => ∃ k : Nat, k ≤ n ∧ i = .int .i64 k ∧ c = .int .i64 (k0 + 3 * k) ∧ (∃ ys : List Value, Row wr 158 3 lo hi (.slice ao n cap) n ys ∧ IsSts ys n ∧ ∀ j, j < k * 3 → ys[j]? = (sts (marksS k0 n))[j]?) ∧ w.grownBy wr (Value.slice ao n cap).ownBlock ∧ wr.heap.size = w.heap.size) (fun _ i _ => n - (intOf i).toNat)
  case atStart => exact ⟨0, by omega, rfl, by simp, ⟨xs, h, hx, fun j hj => absurd hj (by omega)⟩, World.grownBy.refl _ _, rfl⟩
  case round =>
    obtain ⟨k, hk, rfl, rfl, ⟨ys, hrow, hys, hd⟩, hout, hz⟩ := hrel
    clear h hx hc hlen
    by_cases hlt : k < n
    · obtain ⟨hlen, ao', cap', e', _, hc⟩ := hrow.rd
      cases e'
      obtain ⟨b, o, rfl, hbl, _⟩ := hc (by omega)
      obtain ⟨rfl, hb1, hb2, _, hfr, hcl⟩ := hrow.at
      obtain ⟨x, y, z, q0, q1, q2⟩ := hys k hlt
      have f0 := hfr (k * 3)
      have f1 := hfr (k * 3 + 1)
      have f2 := hfr (k * 3 + 2)
      have e0 := (hcl (k * 3) (by omega)).trans q0
      have e1 := (hcl (k * 3 + 1) (by omega)).trans q1
      have e2 := (hcl (k * 3 + 2) (by omega)).trans q2
      have PH := hideIt (hrow.put3 k (.int .i64 (k0 + 3 * k)) (.int .i64 (k0 + 3 * k + 1)) (.bool ((k0 + 3 * k + 1 + 1) % 3 == 0)))
      have OH := hideIt (grown_setCell (grown_setCell (grown_setCell hout (a := ⟨b, k * 3, none⟩) rfl (.int .i64 (k0 + 3 * k))) (a := ⟨b, k * 3 + 1, none⟩) rfl (.int .i64 (k0 + 3 * k + 1))) (a := ⟨b, k * 3 + 2, none⟩) rfl (.bool ((k0 + 3 * k + 1 + 1) % 3 == 0)))
      have IH := hideIt (hys.put3 hlen k (k0 + 3 * k) (k0 + 3 * k + 1) ((k0 + 3 * k + 1 + 1) % 3 == 0))
      have DH : Hid (∀ j, j < (k + 1) * 3 → (put3 ys k (.int .i64 (k0 + 3 * k)) (.int .i64 (k0 + 3 * k + 1)) (.bool ((k0 + 3 * k + 1 + 1) % 3 == 0)))[j]? = (sts (marksS k0 n))[j]?) := by
        have hk' : k < (marksS k0 n).length := by rw [marksS_len]; exact hlt
        have := put3_step (ps := marksS k0 n) hk' (by rw [marksS_len]; exact hlen) hd
        rw [marksS_at] at this
        exact this
      clear hrow hys hd hc hfr hcl q0 q1 q2
      go_wp2
      go_roundw
      case rel => exact ⟨k + 1, by omega, by go_num, by go_num, ⟨_, PH.out, IH.out, DH.out⟩, OH.out, by simp [hz]⟩
      case measure => simp [intOf]; omega
    · have e : k = n := by omega
      subst e
      have hl := hrow.len
      have RH := hideIt hrow
      have DH := hideIt hd
      clear hrow hys hd
      go_wp2
      go_ret
      have e := sts_all (ps := marksS k0 k) (by rw [marksS_len]; exact hl) (by rw [marksS_len]; exact DH.out)
      exact ⟨rfl, e ▸ RH.out, hout, hz⟩

end Go.Proofs.YtbjjdkemappelaaGreatDoor

namespace Go.Proofs.YtbjjdkemappelaaGreatDoor
open Go.RowKit

set_option maxHeartbeats 2000000 in
theorem markPm_any (v : Value) (ws : List Int) (ps : List St) (k0 : Int) (lo hi : Nat) (w : World) (h : RowPm w lo hi v ws ps) (hi1 : hi ≤ w.heap.size) (hw : ws.length ≤ 2147483648) (hp : ps.length ≤ 2147483648) (h0 : 0 ≤ k0) (h1 : k0 ≤ 1073741824) :
    Calls Tryz.prog 46 #[v, .int .i64 k0] w fun e w' => e = .returned (.int .i64 (k0 + ws.length + 3 * ps.length)) ∧ RowPm w' lo hi v (marks k0 ws.length) (marksS (k0 + ws.length) ps.length) ∧ Outside lo hi w w' := by
  obtain ⟨vW, vP, rfl, h1, h2⟩ := h
  obtain ⟨_, aW, cW, rfl, _⟩ := h1.rd
  obtain ⟨_, aP, cP, rfl, _⟩ := h2.rd
  have H1 := hideIt h1
  have H2 := hideIt h2
  clear h1 h2
  go_enter Tryz.func46, Tryz.ntmps46
  go_wp2_with fail
  have hb0 : Below w.heap.size w (w.alloc (.cells #[.slice aW ws.length cW, .slice aP ps.length cP] 36)) := (Below.refl _ _).alloc (Nat.le_refl _) _
  refine (markIntS_any _ _ (ints ws) k0 lo hi _ (H1.out.below hb0 hi1) (fun u hu => by simp only [ints, List.mem_map] at hu; obtain ⟨z, _, rfl⟩ := hu; exact ⟨z, rfl⟩) hw h0 (by omega)).mono ?_
  rintro e w1 ⟨rfl, hr1, hg1, hz1⟩
  simp only [World.size_alloc] at hz1
  have ho1 := Row.grown_outside H1.out hg1
  have V0 := (ho1.block w.heap.size (by simp) (.inr hi1)).trans (at_new rfl)
  obtain ⟨x1, x2, _, _⟩ := two_cells V0
  have O1 := hideIt ((Outside.of_below (lo := lo) (hi := hi) hb0).trans ho1)
  have R1 := hideIt hr1
  have R2 := hideIt ((H2.out.below hb0 hi1).apart (H1.out.below hb0 hi1) (by decide) hg1)
  clear hr1 hg1 ho1 V0
  go_wp2_with fail
  refine (markStoreS_any _ _ (sts ps) (k0 + ws.length) lo hi _ R2.out (isSts ps) hp (by omega) (by omega)).mono ?_
  rintro e w2 ⟨rfl, hr2, hg2, hz2⟩
  have O2 := hideIt (O1.out.trans (Row.grown_outside R2.out hg2))
  have R3 := hideIt (R1.out.apart R2.out (by decide) hg2)
  have R4 := hideIt hr2
  clear hr2 hg2
  go_wp2
  go_ret
  refine ⟨rfl, ⟨_, _, rfl, ?_, ?_⟩, O2.out⟩
  · rw [marks_len]; exact R3.out
  · rw [marksS_len]; exact R4.out

end Go.Proofs.YtbjjdkemappelaaGreatDoor

namespace Go.Proofs.YtbjjdkemappelaaGreatDoor
open Go.RowKit

/-- A step as a value. -/
def Mi.v (m : Mi) : Value := .agg #[.int .i64 m.kind, .int .i64 m.at_, .int .i64 m.val]
/-- A step that is right. -/
def miB (m : Mi) : Bool := decide ((m.kind = 1 ∧ (0 ≤ m.at_ ∧ m.at_ < 336) ∧ 0 ≤ m.val ∧ m.val < 1099511627776) ∨ (m.kind = 2 ∧ (0 ≤ m.at_ ∧ m.at_ < 336) ∧ m.val = 0) ∨ (m.kind = 4 ∧ (0 ≤ m.at_ ∧ m.at_ < 32) ∧ 0 ≤ m.val ∧ m.val < 1099511627776) ∨ ((m.kind = 3 ∨ m.kind = 5) ∧ m.at_ = 0 ∧ m.val = 0))
theorem miB_iff {m : Mi} : miB m = true ↔ ((m.kind = 1 ∧ (0 ≤ m.at_ ∧ m.at_ < 336) ∧ 0 ≤ m.val ∧ m.val < 1099511627776) ∨ (m.kind = 2 ∧ (0 ≤ m.at_ ∧ m.at_ < 336) ∧ m.val = 0) ∨ (m.kind = 4 ∧ (0 ≤ m.at_ ∧ m.at_ < 32) ∧ 0 ≤ m.val ∧ m.val < 1099511627776) ∨ ((m.kind = 3 ∨ m.kind = 5) ∧ m.at_ = 0 ∧ m.val = 0)) := by unfold miB; exact decide_eq_true_iff
theorem miB_of (k a v : Int) : miB ⟨k, a, v⟩ = true ↔ ((k = 1 ∧ (0 ≤ a ∧ a < 336) ∧ 0 ≤ v ∧ v < 1099511627776) ∨ (k = 2 ∧ (0 ≤ a ∧ a < 336) ∧ v = 0) ∨ (k = 4 ∧ (0 ≤ a ∧ a < 32) ∧ 0 ≤ v ∧ v < 1099511627776) ∨ ((k = 3 ∨ k = 5) ∧ a = 0 ∧ v = 0)) := miB_iff
set_option maxRecDepth 100000 in
set_option maxHeartbeats 4000000 in
theorem l04Micro_any (m : Mi) (w : World) : Calls Tryz.prog 48 #[m.v] w fun e w' => e = .returned (.bool (miB m)) ∧ Below w.heap.size w w' := by
  obtain ⟨k, a, v⟩ := m
  have hb0 : Below w.heap.size w (w.alloc (.cells #[.int .i64 k, .int .i64 a, .int .i64 v] 110)) := (Below.refl _ _).alloc (Nat.le_refl _) _
  have E := hideIt (miB_of k a v)
  unfold Mi.v
  simp only
  have WE := hideIt (show wordB v = decide (0 ≤ v ∧ v < 1099511627776) from rfl)
  rcases (show k = 1 ∨ k = 2 ∨ k = 3 ∨ k = 4 ∨ k = 5 ∨ (¬ k = 1 ∧ ¬ k = 2 ∧ ¬ k = 3 ∧ ¬ k = 4 ∧ ¬ k = 5) by omega) with rfl | rfl | rfl | rfl | rfl | ⟨n1, n2, n3, n4, n5⟩
  · by_cases ca : 0 ≤ a ∧ a ≤ 335
    · go_enter Tryz.func48, Tryz.ntmps48
      go_wp2_with (first | (go_at_call 84; refine (l01In_yes _ _ _ _ ca).mono ?_; rintro e w' ⟨rfl, rfl⟩) | (go_at_call 85; refine (l01Word_any _ _).mono ?_; rintro e w' ⟨rfl, rfl⟩))
      go_ret
      refine ⟨ret_bool ?_, hb0⟩
      rw [WE.out, Bool.eq_iff_iff, E.out, decide_eq_true_iff]
      first | omega | (simp only [true_and]; omega) | (simp only [true_and, true_or]; omega) | (simp only [true_and, or_true]; omega)
    · have C := hideIt ca
      clear ca
      go_enter Tryz.func48, Tryz.ntmps48
      go_wp2_with (go_at_call 84; refine (l01In_no _ _ _ _ C.out).mono ?_; rintro e w' ⟨rfl, rfl⟩)
      go_ret
      have := C.out
      refine ⟨ret_bool ?_, hb0⟩
      rw [Bool.eq_iff_iff, E.out]
      simp
      omega
  · by_cases ca : 0 ≤ a ∧ a ≤ 335
    · go_enter Tryz.func48, Tryz.ntmps48
      go_wp2_with (go_at_call 84; refine (l01In_yes _ _ _ _ ca).mono ?_; rintro e w' ⟨rfl, rfl⟩)
      go_ret
      refine ⟨ret_bool ?_, hb0⟩
      rw [Bool.eq_iff_iff, E.out, beq_iff_eq]
      first | omega | (simp only [true_and]; omega) | (simp only [true_and, true_or]; omega) | (simp only [true_and, or_true]; omega)
    · have C := hideIt ca
      clear ca
      go_enter Tryz.func48, Tryz.ntmps48
      go_wp2_with (go_at_call 84; refine (l01In_no _ _ _ _ C.out).mono ?_; rintro e w' ⟨rfl, rfl⟩)
      go_ret
      have := C.out
      refine ⟨ret_bool ?_, hb0⟩
      rw [Bool.eq_iff_iff, E.out]
      simp
      omega
  · by_cases ca : (a == 0) = true
    · go_enter Tryz.func48, Tryz.ntmps48
      go_wp2
      go_ret
      have := beq_iff_eq.1 ca
      refine ⟨ret_bool ?_, hb0⟩
      rw [Bool.eq_iff_iff, E.out, beq_iff_eq]
      first | omega | (simp only [true_and]; omega) | (simp only [true_and, true_or]; omega) | (simp only [true_and, or_true]; omega)
    · have ca' : (a == 0) = false := by simpa using ca
      clear ca
      go_enter Tryz.func48, Tryz.ntmps48
      go_wp2
      go_ret
      have := beq_eq_false_iff_ne.1 ca'
      refine ⟨ret_bool ?_, hb0⟩
      rw [Bool.eq_iff_iff, E.out]
      simp
      omega
  · by_cases ca : 0 ≤ a ∧ a ≤ 31
    · go_enter Tryz.func48, Tryz.ntmps48
      go_wp2_with (first | (go_at_call 84; refine (l01In_yes _ _ _ _ ca).mono ?_; rintro e w' ⟨rfl, rfl⟩) | (go_at_call 85; refine (l01Word_any _ _).mono ?_; rintro e w' ⟨rfl, rfl⟩))
      go_ret
      refine ⟨ret_bool ?_, hb0⟩
      rw [WE.out, Bool.eq_iff_iff, E.out, decide_eq_true_iff]
      first | omega | (simp only [true_and]; omega) | (simp only [true_and, true_or]; omega) | (simp only [true_and, or_true]; omega)
    · have C := hideIt ca
      clear ca
      go_enter Tryz.func48, Tryz.ntmps48
      go_wp2_with (go_at_call 84; refine (l01In_no _ _ _ _ C.out).mono ?_; rintro e w' ⟨rfl, rfl⟩)
      go_ret
      have := C.out
      refine ⟨ret_bool ?_, hb0⟩
      rw [Bool.eq_iff_iff, E.out]
      simp
      omega
  · by_cases ca : (a == 0) = true
    · go_enter Tryz.func48, Tryz.ntmps48
      go_wp2
      go_ret
      have := beq_iff_eq.1 ca
      refine ⟨ret_bool ?_, hb0⟩
      rw [Bool.eq_iff_iff, E.out, beq_iff_eq]
      first | omega | (simp only [true_and]; omega) | (simp only [true_and, true_or]; omega) | (simp only [true_and, or_true]; omega)
    · have ca' : (a == 0) = false := by simpa using ca
      clear ca
      go_enter Tryz.func48, Tryz.ntmps48
      go_wp2
      go_ret
      have := beq_eq_false_iff_ne.1 ca'
      refine ⟨ret_bool ?_, hb0⟩
      rw [Bool.eq_iff_iff, E.out]
      simp
      omega
  · have q1 : (k == 1) = false := by simpa using n1
    have q2 : (k == 2) = false := by simpa using n2
    have q3 : (k == 3) = false := by simpa using n3
    have q4 : (k == 4) = false := by simpa using n4
    have q5 : (k == 5) = false := by simpa using n5
    have N := hideIt (And.intro n1 (And.intro n2 (And.intro n3 (And.intro n4 n5))))
    clear n1 n2 n3 n4 n5
    go_enter Tryz.func48, Tryz.ntmps48
    go_wp2
    go_ret
    have := N.out
    refine ⟨ret_bool ?_, hb0⟩
    rw [Bool.eq_iff_iff, E.out]
    simp
    omega

end Go.Proofs.YtbjjdkemappelaaGreatDoor

namespace Go.Proofs.YtbjjdkemappelaaGreatDoor
open Go.RowKit

def Mi.cells (s : Mi) : List Value := [.int .i64 s.kind, .int .i64 s.at_, .int .i64 s.val]
def mis (ps : List Mi) : List Value := ps.flatMap Mi.cells

theorem Mi.cells_len (s : Mi) : s.cells.length = 3 := rfl
theorem mis_len (ps : List Mi) : (mis ps).length = ps.length * 3 := flatMap_len _ 3 Mi.cells_len ps
theorem mis_at0 (ps : List Mi) (k : Nat) (h : k < ps.length) : (mis ps)[k * 3]? = some (.int .i64 ps[k].kind) := flatMap_at _ 3 Mi.cells_len ps k 0 h (by omega)
theorem mis_at1 (ps : List Mi) (k : Nat) (h : k < ps.length) : (mis ps)[k * 3 + 1]? = some (.int .i64 ps[k].at_) := flatMap_at _ 3 Mi.cells_len ps k 1 h (by omega)
theorem mis_at2 (ps : List Mi) (k : Nat) (h : k < ps.length) : (mis ps)[k * 3 + 2]? = some (.int .i64 ps[k].val) := flatMap_at _ 3 Mi.cells_len ps k 2 h (by omega)

/-- A slice of steps that can be read. -/
def RdM (w : World) (v : Value) (ps : List Mi) : Prop := Rd w 3 v ps.length (mis ps)
theorem RdM.shape {w : World} {v : Value} {ps : List Mi} (h : RdM w v ps) : ∃ ao cap, v = .slice ao ps.length cap ∧ ps.length ≤ cap ∧ (0 < ps.length → ∃ b o, ao = some ⟨b, o, none⟩ ∧ b < w.heap.size ∧
    ∀ k (h : k < ps.length), w.cell? ⟨b, o + k * 3, none⟩ = some (.int .i64 ps[k].kind) ∧ w.cell? ⟨b, o + k * 3 + 1, none⟩ = some (.int .i64 ps[k].at_) ∧ w.cell? ⟨b, o + k * 3 + 2, none⟩ = some (.int .i64 ps[k].val)) := by
  obtain ⟨_, ao, cap, rfl, h2, h3⟩ := h
  refine ⟨ao, cap, rfl, h2.1, fun hn => ?_⟩
  obtain ⟨b, o, rfl, hb, hc⟩ := h3 hn
  exact ⟨b, o, rfl, hb, fun k hk => ⟨(hc (k * 3) (by omega)).trans (mis_at0 ps k hk), (hc (k * 3 + 1) (by omega)).trans (mis_at1 ps k hk), (hc (k * 3 + 2) (by omega)).trans (mis_at2 ps k hk)⟩⟩

theorem infoMic : (Tryz.prog.info? 110).map (fun i => (i.zero, i.size, i.bytes)) = some (some (.agg #[.int .i64 0, .int .i64 0, .int .i64 0]), 3, 24) := by kernel_rfl

set_option maxHeartbeats 1000000 in
theorem toMic_any (a v : Int) (f : Int) (w : World) : Calls Tryz.prog 49 #[.agg #[.int .i64 a, .int .i64 v, .int .i64 f]] w fun e w' => e = .returned (.agg #[.int .i64 a, .int .i64 v, .int .i64 f]) ∧ Below w.heap.size w w' := by
  go_enter Tryz.func49, Tryz.ntmps49
  go_wp2
  refine bodyPost_ret (v := .agg #[.int .i64 a, .int .i64 v, .int .i64 f]) (by simp [results, Tryz.results49, go_sem]) rfl ⟨rfl, ?_⟩
  repeat (refine Below.alloc ?_ (by simp <;> omega) _)
  exact Below.refl _ _

theorem put3M_step {ys : List Value} {ps : List Mi} {k : Nat} (hk : k < ps.length) (hl : ys.length = ps.length * 3) (h : ∀ j, j < k * 3 → ys[j]? = (mis ps)[j]?) :
    ∀ j, j < (k + 1) * 3 → (put3 ys k (.int .i64 ps[k].kind) (.int .i64 ps[k].at_) (.int .i64 ps[k].val))[j]? = (mis ps)[j]? := by
  intro j hj
  rw [put3_at (by omega)]
  split
  · rename_i e; rw [e, mis_at2 ps k hk]
  · split
    · rename_i e; rw [e, mis_at1 ps k hk]
    · split
      · rename_i e; rw [e, mis_at0 ps k hk]
      · exact h j (by omega)
theorem mis_all {ys : List Value} {ps : List Mi} (hl : ys.length = ps.length * 3) (h : ∀ j, j < ps.length * 3 → ys[j]? = (mis ps)[j]?) : ys = mis ps := by
  apply List.ext_getElem?
  intro j
  by_cases hj : j < ps.length * 3
  · exact h j hj
  · rw [List.getElem?_eq_none (by omega), List.getElem?_eq_none (by rw [mis_len]; omega)]

set_option maxHeartbeats 1000000 in
theorem toMicroS_any (v : Value) (ps : List Mi) (w : World) (h : RdM w v ps) (hn : ps.length ≤ 1048576) :
    Calls Tryz.prog 21 #[v] w fun e w' => ∃ v', e = .returned v' ∧ Row w' 110 3 w.heap.size w'.heap.size v' ps.length (mis ps) ∧ Below w.heap.size w w' := by
  obtain ⟨ao, cap, rfl, hcap, hc⟩ := h.shape
  clear h
  have hmk := run_make_rows (P := Tryz.prog) 53 110 (.agg #[.int .i64 0, .int .i64 0, .int .i64 0]) 3 24 Tryz.underlying53 infoMic .i64 .i64 ps.length (by omega) (by omega)
  go_enter Tryz.func21, Tryz.ntmps21
  go_wp2
  go_loopw [4] (fun i wr => ∃ k : Nat, k ≤ ps.length ∧ i = .int .i64 k ∧ (∃ ys, Row wr 110 3 w.heap.size (w.heap.size + 1) (.slice (some ⟨w.heap.size, 0, none⟩) ps.length ps.length) ps.length ys ∧ ∀ j, j < k * 3 → ys[j]? = (mis ps)[j]?) ∧ Below w.heap.size w wr ∧ w.heap.size + 1 ≤ wr.heap.size) (fun i _ => ps.length - (intOf i).toNat)
  case atStart =>
    refine ⟨0, by omega, rfl, ⟨_, row_made w (.agg #[.int .i64 0, .int .i64 0, .int .i64 0]) 3 ps.length 110 (by simp [maxLen]; omega), fun j hj => absurd hj (by omega)⟩, (Below.refl _ _).alloc (Nat.le_refl _) _, by simp⟩
  case round =>
    obtain ⟨k, hk, rfl, ⟨ys, hrow, hys⟩, hb, hz⟩ := hrel
    by_cases hlt : k < ps.length
    · obtain ⟨b, o, rfl, hbl, hcell⟩ := hc (by omega)
      obtain ⟨c0, c1, c2⟩ := hcell k hlt
      have d0 := (hb.cell (p := ⟨b, o + k * 3, none⟩) hbl).trans c0
      have d1 := (hb.cell (p := ⟨b, o + k * 3 + 1, none⟩) hbl).trans c1
      have d2 := (hb.cell (p := ⟨b, o + k * 3 + 2, none⟩) hbl).trans c2
      have RH := hideIt hrow
      have YH := hideIt hys
      clear hcell hc c0 c1 c2 hrow hys
      go_wp2_with fail
      refine (toMic_any _ _ _ _).mono ?_
      rintro e w1 ⟨rfl, hb1⟩
      have R1 := hideIt (RH.out.below hb1 (by omega))
      obtain ⟨_, _, _, hsz, hfr, hcl⟩ := R1.out.at
      have hl := RH.out.len
      have f0 := hfr (k * 3)
      have f1 := hfr (k * 3 + 1)
      have f2 := hfr (k * 3 + 2)
      have e0 : w1.cell? ⟨w.heap.size, k * 3, none⟩ = some (ys[k * 3]'(by omega)) := by rw [hcl _ (by omega)]; simp
      have e1 : w1.cell? ⟨w.heap.size, k * 3 + 1, none⟩ = some (ys[k * 3 + 1]'(by omega)) := by rw [hcl _ (by omega)]; simp
      have e2 : w1.cell? ⟨w.heap.size, k * 3 + 2, none⟩ = some (ys[k * 3 + 2]'(by omega)) := by rw [hcl _ (by omega)]; simp
      have BH := hideIt (hb.trans (hb1.mono (show w.heap.size ≤ wr.heap.size by omega)))
      have hz1 := hb1.size
      clear hfr hcl hb1 hb d0 d1 d2
      have P1 := hideIt (R1.out.put3 k (.int .i64 ps[k].kind) (.int .i64 ps[k].at_) (.int .i64 ps[k].val))
      have B1 := hideIt (((BH.out.setCell (p := ⟨w.heap.size, k * 3, none⟩) (Nat.le_refl _) (.int .i64 ps[k].kind)).setCell (p := ⟨w.heap.size, k * 3 + 1, none⟩) (Nat.le_refl _) (.int .i64 ps[k].at_)).setCell (p := ⟨w.heap.size, k * 3 + 2, none⟩) (Nat.le_refl _) (.int .i64 ps[k].val))
      go_wp2
      go_roundw
      case rel => exact ⟨k + 1, by omega, by go_num, ⟨_, P1.out, put3M_step hlt hl YH.out⟩, B1.out, by simp; omega⟩
      case measure => simp [intOf]; omega
    · have e : k = ps.length := by omega
      subst e
      have hl := hrow.len
      have RH := hideIt hrow
      have YH := hideIt hys
      clear hrow hys hc
      go_wp2
      go_ret
      have e := mis_all hl YH.out
      refine ⟨_, rfl, ?_, hb⟩
      rw [← e]
      exact RH.out.wide (Nat.le_refl _) hz

theorem szMicroS_any (ao : Option Addr) (n cap : Nat) (left : Int) (w : World) (hn : n ≤ maxLen) (h0 : 0 ≤ left) (h1 : left ≤ 1048576) :
    Calls Tryz.prog 19 #[.slice ao n cap, .int .i64 left] w fun e w' => e = .returned (.int .i64 (less left n)) ∧ w' = w := by
  unfold maxLen at hn
  by_cases h : left < n
  · have e : less left n = -1 := by unfold less; rw [if_pos h]
    rw [e]; clear e
    go_enter Tryz.func19, Tryz.ntmps19
    go_wp2
    go_ret
    exact ⟨rfl, rfl⟩
  · have e : less left n = left - n := by unfold less; rw [if_neg h]
    rw [e]; clear e
    go_enter Tryz.func19, Tryz.ntmps19
    go_wp2
    go_ret
    exact ⟨rfl, rfl⟩

set_option maxHeartbeats 1000000 in
theorem eqMic_same (a v : Int) (f : Int) (w : World) : Calls Tryz.prog 56 #[.agg #[.int .i64 a, .int .i64 v, .int .i64 f], .agg #[.int .i64 a, .int .i64 v, .int .i64 f]] w fun e w' => e = .returned (.bool true) ∧ Below w.heap.size w w' := by
  go_enter Tryz.func56, Tryz.ntmps56
  go_wp2
  go_ret
  refine ⟨rfl, ?_⟩
  repeat (refine Below.alloc ?_ (by simp <;> omega) _)
  exact Below.refl _ _
end Go.Proofs.YtbjjdkemappelaaGreatDoor

namespace Go.Proofs.YtbjjdkemappelaaGreatDoor
open Go.RowKit

set_option maxHeartbeats 2000000 in
/-- Two slices of steps that read alike are found alike. -/
theorem eqMicroS_same (va vb : Value) (ps : List Mi) (w : World) (ha : RdM w va ps) (hb : RdM w vb ps) (hn : ps.length ≤ 2147483648) :
    Calls Tryz.prog 23 #[va, vb] w fun e w' => e = .returned (.bool true) ∧ Below w.heap.size w w' := by
  obtain ⟨ao, cap, rfl, hcap, hc⟩ := ha.shape
  obtain ⟨ao2, cap2, rfl, hcap2, hc2⟩ := hb.shape
  clear ha hb
  go_enter Tryz.func23, Tryz.ntmps23
  go_wp2
  go_loopw [5] (fun i wr => ∃ k : Nat, k ≤ ps.length ∧ i = .int .i64 k ∧ Below w.heap.size w wr) (fun i _ => ps.length - (intOf i).toNat)
  case atStart => exact ⟨0, by omega, rfl, Below.refl _ _⟩
  case round =>
    obtain ⟨k, hk, rfl, hbw⟩ := hrel
    by_cases hlt : k < ps.length
    · obtain ⟨b, o, rfl, hbl, hcell⟩ := hc (by omega)
      obtain ⟨b2, o2, rfl, hbl2, hcell2⟩ := hc2 (by omega)
      obtain ⟨c0, c1, c2⟩ := hcell k hlt
      obtain ⟨c3, c4, c5⟩ := hcell2 k hlt
      have d0 := (hbw.cell (p := ⟨b, o + k * 3, none⟩) hbl).trans c0
      have d1 := (hbw.cell (p := ⟨b, o + k * 3 + 1, none⟩) hbl).trans c1
      have d2 := (hbw.cell (p := ⟨b, o + k * 3 + 2, none⟩) hbl).trans c2
      have d3 := (hbw.cell (p := ⟨b2, o2 + k * 3, none⟩) hbl2).trans c3
      have d4 := (hbw.cell (p := ⟨b2, o2 + k * 3 + 1, none⟩) hbl2).trans c4
      have d5 := (hbw.cell (p := ⟨b2, o2 + k * 3 + 2, none⟩) hbl2).trans c5
      have hlt' : (k : Int) < (ps.length : Int) := by omega
      have hge : (0 : Int) ≤ (k : Int) := by omega
      have hz := hbw.size
      clear hcell hcell2 hc hc2 c0 c1 c2 c3 c4 c5
      go_wp2_with fail
      go_region_with (go_at_call 56; refine (eqMic_same _ _ _ _).mono ?_; rintro e w1 ⟨rfl, hb1⟩)
      all_goals
        go_wp2
        go_roundw
        case rel => exact ⟨k + 1, by omega, by go_num, hbw.trans (Below.mono (Below.trans ((Below.refl _ _).drew) ‹_›) hz)⟩
        case measure => simp [intOf]; omega
    · go_wp2
      go_ret
      exact ⟨rfl, hbw⟩

/-- The i-th of the marks from k on. -/
def markM (k : Int) (i : Nat) : Mi := ⟨k + 3 * (i : Int), k + 3 * (i : Int) + 1, k + 3 * (i : Int) + 1 + 1⟩
def marksM (k : Int) (n : Nat) : List Mi := (List.range n).map (markM k)
theorem marksM_len (k : Int) (n : Nat) : (marksM k n).length = n := by simp [marksM]
theorem marksM_at (k : Int) (n i : Nat) (h : i < (marksM k n).length) : (marksM k n)[i] = markM k i := by simp [marksM]

/-- Cells of steps: numbers and bools, in their turn. -/
def IsMis (xs : List Value) (n : Nat) : Prop := ∀ k, k < n → ∃ a b c, xs[k * 3]? = some (.int .i64 a) ∧ xs[k * 3 + 1]? = some (.int .i64 b) ∧ xs[k * 3 + 2]? = some (.int .i64 c)
theorem isMis (ps : List Mi) : IsMis (mis ps) ps.length := fun k hk => ⟨_, _, _, mis_at0 ps k hk, mis_at1 ps k hk, mis_at2 ps k hk⟩
theorem IsMis.put3 {ys : List Value} {n : Nat} (h : IsMis ys n) (hl : ys.length = n * 3) (k : Nat) (a b : Int) (c : Int) : IsMis (put3 ys k (.int .i64 a) (.int .i64 b) (.int .i64 c)) n := by
  intro j hj
  rw [put3_at (by omega), put3_at (by omega), put3_at (by omega)]
  by_cases e : j = k
  · subst e
    exact ⟨a, b, c, by simp, by simp, by simp⟩
  · obtain ⟨x, y, z, h0, h1, h2⟩ := h j hj
    refine ⟨x, y, z, ?_, ?_, ?_⟩
    · rw [if_neg (by omega), if_neg (by omega), if_neg (by omega)]; exact h0
    · rw [if_neg (by omega), if_neg (by omega), if_neg (by omega)]; exact h1
    · rw [if_neg (by omega), if_neg (by omega), if_neg (by omega)]; exact h2

set_option maxHeartbeats 2000000 in
/-- A slice of steps of the call's own is marked, and nothing else is written. -/
theorem markMicroS_any (v : Value) (n : Nat) (xs : List Value) (k0 : Int) (lo hi : Nat) (w : World) (h : Row w 110 3 lo hi v n xs) (hx : IsMis xs n) (hn : n ≤ 2147483648) (h0 : 0 ≤ k0) (h1 : k0 ≤ 1099511627776) :
    Calls Tryz.prog 24 #[v, .int .i64 k0] w fun e w' => e = .returned (.int .i64 (k0 + 3 * n)) ∧ Row w' 110 3 lo hi v n (mis (marksM k0 n)) ∧ w.grownBy w' v.ownBlock ∧ w'.heap.size = w.heap.size := by
  obtain ⟨hlen, ao, cap, rfl, hcap, hc⟩ := h.rd
  go_enter Tryz.func24, Tryz.ntmps24
  go_wp2
  go_loopw [1, 5] (fun c i wr => ∃ k : Nat, k ≤ n ∧ i = .int .i64 k ∧ c = .int .i64 (k0 + 3 * k) ∧ (∃ ys : List Value, Row wr 110 3 lo hi (.slice ao n cap) n ys ∧ IsMis ys n ∧ ∀ j, j < k * 3 → ys[j]? = (mis (marksM k0 n))[j]?) ∧ w.grownBy wr (Value.slice ao n cap).ownBlock ∧ wr.heap.size = w.heap.size) (fun _ i _ => n - (intOf i).toNat)
  case atStart => exact ⟨0, by omega, rfl, by simp, ⟨xs, h, hx, fun j hj => absurd hj (by omega)⟩, World.grownBy.refl _ _, rfl⟩
  case round =>
    obtain ⟨k, hk, rfl, rfl, ⟨ys, hrow, hys, hd⟩, hout, hz⟩ := hrel
    clear h hx hc hlen
    by_cases hlt : k < n
    · obtain ⟨hlen, ao', cap', e', _, hc⟩ := hrow.rd
      cases e'
      obtain ⟨b, o, rfl, hbl, _⟩ := hc (by omega)
      obtain ⟨rfl, hb1, hb2, _, hfr, hcl⟩ := hrow.at
      obtain ⟨x, y, z, q0, q1, q2⟩ := hys k hlt
      have f0 := hfr (k * 3)
      have f1 := hfr (k * 3 + 1)
      have f2 := hfr (k * 3 + 2)
      have e0 := (hcl (k * 3) (by omega)).trans q0
      have e1 := (hcl (k * 3 + 1) (by omega)).trans q1
      have e2 := (hcl (k * 3 + 2) (by omega)).trans q2
      have PH := hideIt (hrow.put3 k (.int .i64 (k0 + 3 * k)) (.int .i64 (k0 + 3 * k + 1)) (.int .i64 (k0 + 3 * k + 1 + 1)))
      have OH := hideIt (grown_setCell (grown_setCell (grown_setCell hout (a := ⟨b, k * 3, none⟩) rfl (.int .i64 (k0 + 3 * k))) (a := ⟨b, k * 3 + 1, none⟩) rfl (.int .i64 (k0 + 3 * k + 1))) (a := ⟨b, k * 3 + 2, none⟩) rfl (.int .i64 (k0 + 3 * k + 1 + 1)))
      have IH := hideIt (hys.put3 hlen k (k0 + 3 * k) (k0 + 3 * k + 1) (k0 + 3 * k + 1 + 1))
      have DH : Hid (∀ j, j < (k + 1) * 3 → (put3 ys k (.int .i64 (k0 + 3 * k)) (.int .i64 (k0 + 3 * k + 1)) (.int .i64 (k0 + 3 * k + 1 + 1)))[j]? = (mis (marksM k0 n))[j]?) := by
        have hk' : k < (marksM k0 n).length := by rw [marksM_len]; exact hlt
        have := put3M_step (ps := marksM k0 n) hk' (by rw [marksM_len]; exact hlen) hd
        rw [marksM_at] at this
        exact this
      clear hrow hys hd hc hfr hcl q0 q1 q2
      go_wp2
      go_roundw
      case rel => exact ⟨k + 1, by omega, by go_num, by go_num, ⟨_, PH.out, IH.out, DH.out⟩, OH.out, by simp [hz]⟩
      case measure => simp [intOf]; omega
    · have e : k = n := by omega
      subst e
      have hl := hrow.len
      have RH := hideIt hrow
      have DH := hideIt hd
      clear hrow hys hd
      go_wp2
      go_ret
      have e := mis_all (ps := marksM k0 k) (by rw [marksM_len]; exact hl) (by rw [marksM_len]; exact DH.out)
      exact ⟨rfl, e ▸ RH.out, hout, hz⟩

end Go.Proofs.YtbjjdkemappelaaGreatDoor

namespace Go.Proofs.YtbjjdkemappelaaGreatDoor
open Go.RowKit

set_option maxHeartbeats 2000000 in
theorem markBlk_any (v : Value) (ws : List Int) (ps : List Se) (k0 : Int) (lo hi : Nat) (w : World) (h : RowBlk w lo hi v ws ps) (hi1 : hi ≤ w.heap.size) (hw : ws.length ≤ 2147483648) (hp : ps.length ≤ 2147483648) (h0 : 0 ≤ k0) (h1 : k0 ≤ 1073741824) :
    Calls Tryz.prog 47 #[v, .int .i64 k0] w fun e w' => e = .returned (.int .i64 (k0 + ws.length + 2 * ps.length)) ∧ RowBlk w' lo hi v (marks k0 ws.length) (marksE (k0 + ws.length) ps.length) ∧ Outside lo hi w w' := by
  obtain ⟨vW, vP, rfl, h1, h2⟩ := h
  obtain ⟨_, aW, cW, rfl, _⟩ := h1.rd
  obtain ⟨_, aP, cP, rfl, _⟩ := h2.rd
  obtain ⟨e1, he1, h1⟩ := h1
  have HE := hideIt he1
  have H1 := hideIt h1
  have H2 := hideIt h2
  clear h1 h2 he1
  go_enter Tryz.func47, Tryz.ntmps47
  go_wp2_with fail
  have hb0 : Below w.heap.size w (w.alloc (.cells #[.slice aW ws.length cW, .slice aP ps.length cP] 39)) := (Below.refl _ _).alloc (Nat.le_refl _) _
  refine (markIntS_any _ _ (ints ws) k0 lo hi _ (H1.out.below hb0 hi1) (fun u hu => by simp only [ints, List.mem_map] at hu; obtain ⟨z, _, rfl⟩ := hu; exact ⟨z, rfl⟩) hw h0 (by omega)).mono ?_
  rintro e w1 ⟨rfl, hr1, hg1, hz1⟩
  simp only [World.size_alloc] at hz1
  have ho1 := Row.grown_outside H1.out hg1
  have V0 := (ho1.block w.heap.size (by simp) (.inr hi1)).trans (at_new rfl)
  obtain ⟨x1, x2, _, _⟩ := two_cells V0
  have O1 := hideIt ((Outside.of_below (lo := lo) (hi := hi) hb0).trans ho1)
  have R1 := hideIt hr1
  have R2 := hideIt ((H2.out.below hb0 hi1).apart (H1.out.below hb0 hi1) (Ne.symm HE.out) hg1)
  clear hr1 hg1 ho1 V0
  go_wp2_with fail
  refine (markSectorS_any _ _ (ses ps) (k0 + ws.length) lo hi _ R2.out (isSes ps) hp (by omega) (by omega)).mono ?_
  rintro e w2 ⟨rfl, hr2, hg2, hz2⟩
  have O2 := hideIt (O1.out.trans (Row.grown_outside R2.out hg2))
  have R3 := hideIt (R1.out.apart R2.out HE.out hg2)
  have R4 := hideIt hr2
  clear hr2 hg2
  go_wp2
  go_ret
  refine ⟨rfl, ⟨_, _, rfl, ?_, ?_⟩, O2.out⟩
  · rw [marks_len]; exact ⟨e1, HE.out, R3.out⟩
  · rw [marksE_len]; exact R4.out

end Go.Proofs.YtbjjdkemappelaaGreatDoor

namespace Go.Proofs.YtbjjdkemappelaaGreatDoor
open Go.RowKit

set_option maxHeartbeats 2000000 in
theorem markDevices_any (v : Value) (ws : List Int) (ps : List St) (es : List Int) (qs : List Se) (k0 : Int) (lo hi : Nat) (w : World) (h : RowDev w lo hi v ws ps es qs) (hi1 : hi ≤ w.heap.size) (hw : ws.length ≤ 16777216) (hp : ps.length ≤ 16777216) (he : es.length ≤ 16777216) (hq : qs.length ≤ 16777216) (h0 : 0 ≤ k0) (h1 : k0 ≤ 67108864) :
    Calls Tryz.prog 16 #[v, .int .i64 k0] w fun e w' => e = .returned (.int .i64 (k0 + ws.length + 3 * ps.length + es.length + 2 * qs.length)) ∧ RowDev w' lo hi v (marks k0 ws.length) (marksS (k0 + ws.length) ps.length) (marks (k0 + ws.length + 3 * ps.length) es.length) (marksE (k0 + ws.length + 3 * ps.length + es.length) qs.length) ∧ Outside lo hi w w' := by
  obtain ⟨aW, cW, aP, cP, aS, cS, aQ, cQ, e0, -, -⟩ := h.rd.form
  subst e0
  obtain ⟨_, _, _, _, l1, u1, l2, u2, e0, r1, r2, c1, c2, c3, c4, c5⟩ := h
  cases e0
  have R1 := hideIt r1
  have R2 := hideIt r2
  clear r1 r2
  have hb0 : Below w.heap.size w (w.alloc (.cells #[.slice aW ws.length cW, .slice aP ps.length cP, .slice aS es.length cS, .slice aQ qs.length cQ] 41)) := (Below.refl _ _).alloc (Nat.le_refl _) _
  go_enter Tryz.func16, Tryz.ntmps16
  go_wp2_with fail
  refine (markPm_any _ ws ps k0 l1 u1 _ (R1.out.below hb0 (by omega)) (by simp only [World.size_alloc]; omega) (by omega) (by omega) h0 (by omega)).mono ?_
  rintro e w1 ⟨rfl, hr1, ho1⟩
  have hz1 : w.heap.size + 1 ≤ w1.heap.size := by have := ho1.size; simp only [World.size_alloc] at this; exact this
  obtain ⟨x0, x1, x2, x3, -, -, -, -⟩ := four_cells ((ho1.block w.heap.size (by simp) (.inr (by omega))).trans (at_new rfl))
  have O1 := hideIt ((Outside.of_below (lo := lo) (hi := hi) hb0).trans (ho1.mono c1 c2))
  have Q1 := hideIt hr1
  have Q2 := hideIt ((R2.out.below hb0 (by omega)).outside ho1 (by omega) (by simp only [World.size_alloc]; omega))
  clear hr1 ho1 hb0
  go_wp2_with fail
  refine (markBlk_any _ es qs (k0 + ws.length + 3 * ps.length) l2 u2 _ Q2.out (by omega) (by omega) (by omega) (by omega) (by omega)).mono ?_
  rintro e w2 ⟨rfl, hr2, ho2⟩
  have O2 := hideIt (O1.out.trans (ho2.mono c3 c4))
  have Q3 := hideIt (Q1.out.outside ho2 (by omega) (by omega))
  have Q4 := hideIt hr2
  clear hr2 ho2
  go_wp2
  go_ret
  exact ⟨rfl, ⟨_, _, _, _, _, _, _, _, rfl, Q3.out, Q4.out, c1, c2, c3, c4, c5⟩, O2.out⟩

end Go.Proofs.YtbjjdkemappelaaGreatDoor

namespace Go.Proofs.YtbjjdkemappelaaGreatDoor
open Go.RowKit

/-- The table of bounds lies as the program's start has laid it. -/
def SB (w : World) : Prop := ∃ t fr, w.heap[0]? = some (.cells #[.int .i64 0, .int .i64 0, .int .i64 336, .int .i64 1099511627776, .int .i64 336, .int .i64 1, .int .i64 1, .int .i64 1, .int .i64 32, .int .i64 1099511627776, .int .i64 1, .int .i64 1] t fr)
theorem SB.lt {w : World} (h : SB w) : 0 < w.heap.size := by
  obtain ⟨t, fr, h⟩ := h
  exact (Array.getElem?_eq_some_iff.1 h).1
theorem SB.below {w w' : World} (h : SB w) (hb : Below w.heap.size w w') : SB w' := by
  have hl := h.lt
  obtain ⟨t, fr, h⟩ := h
  exact ⟨t, fr, (hb.block _ hl).trans h⟩
theorem SB.cells {w : World} (h : SB w) : w.cell? ⟨0, 0, none⟩ = some (.int .i64 0) ∧ w.cell? ⟨0, 1, none⟩ = some (.int .i64 0) ∧ w.cell? ⟨0, 2, none⟩ = some (.int .i64 336) ∧ w.cell? ⟨0, 3, none⟩ = some (.int .i64 1099511627776) ∧ w.cell? ⟨0, 4, none⟩ = some (.int .i64 336) ∧ w.cell? ⟨0, 5, none⟩ = some (.int .i64 1) ∧ w.cell? ⟨0, 6, none⟩ = some (.int .i64 1) ∧ w.cell? ⟨0, 7, none⟩ = some (.int .i64 1) ∧ w.cell? ⟨0, 8, none⟩ = some (.int .i64 32) ∧ w.cell? ⟨0, 9, none⟩ = some (.int .i64 1099511627776) ∧ w.cell? ⟨0, 10, none⟩ = some (.int .i64 1) ∧ w.cell? ⟨0, 11, none⟩ = some (.int .i64 1) := by
  obtain ⟨t, fr, h⟩ := h
  simp [World.cell?, h]
theorem miB_in {k a x : Int} (h : (k = 1 ∧ (0 ≤ a ∧ a < 336) ∧ 0 ≤ x ∧ x < 1099511627776) ∨ (k = 2 ∧ (0 ≤ a ∧ a < 336) ∧ x = 0) ∨ (k = 4 ∧ (0 ≤ a ∧ a < 32) ∧ 0 ≤ x ∧ x < 1099511627776) ∨ ((k = 3 ∨ k = 5) ∧ a = 0 ∧ x = 0)) : miB ⟨k, a, x⟩ = true := (miB_of k a x).2 h
theorem miB_out {k a x : Int} (h : ¬ ((k = 1 ∧ (0 ≤ a ∧ a < 336) ∧ 0 ≤ x ∧ x < 1099511627776) ∨ (k = 2 ∧ (0 ≤ a ∧ a < 336) ∧ x = 0) ∨ (k = 4 ∧ (0 ≤ a ∧ a < 32) ∧ 0 ≤ x ∧ x < 1099511627776) ∨ ((k = 3 ∨ k = 5) ∧ a = 0 ∧ x = 0))) : miB ⟨k, a, x⟩ = false := by
  cases e : miB ⟨k, a, x⟩ with
  | false => rfl
  | true => exact absurd ((miB_of k a x).1 e) h

set_option maxRecDepth 100000 in
set_option maxHeartbeats 8000000 in
theorem isStep_of (k a x : Int) (w : World) (hS : SB w) : Calls Tryz.prog 51 #[.agg #[.int .i64 k, .int .i64 a, .int .i64 x]] w fun e w' => e = .returned (.bool (miB ⟨k, a, x⟩)) ∧ Below w.heap.size w w' := by
  have hb0 : Below w.heap.size w (w.alloc (.cells #[.int .i64 k, .int .i64 a, .int .i64 x] 110)) := (Below.refl _ _).alloc (Nat.le_refl _) _
  obtain ⟨c0, c1, c2, c3, c4, c5, c6, c7, c8, c9, c10, c11⟩ := (hS.below hb0).cells
  clear hS
  by_cases hk : 0 ≤ k ∧ k < 6
  case neg =>
    have E := hideIt (miB_out (k := k) (a := a) (x := x) (by omega))
    have HK := hideIt hk
    clear hk c0 c1 c2 c3 c4 c5 c6 c7 c8 c9 c10 c11
    go_enter Tryz.func51, Tryz.ntmps51
    go_wp2_with (go_at_call 86; refine (isIndex_no _ _ _ HK.out).mono ?_; rintro e w' ⟨rfl, rfl⟩)
    go_ret
    exact ⟨ret_bool E.out.symm, hb0⟩
  rcases (show k = 0 ∨ k = 1 ∨ k = 2 ∨ k = 3 ∨ k = 4 ∨ k = 5 by omega) with rfl | rfl | rfl | rfl | rfl | rfl
  · have hb1 : Below w.heap.size w ((w.alloc (.cells #[.int .i64 0, .int .i64 a, .int .i64 x] 110)).alloc (.cells #[.int .i64 0, .int .i64 0] 146)) := hb0.alloc (by simp) _
    clear c2 c3 c4 c5 c6 c7 c8 c9 c10 c11
    have E := hideIt (miB_out (k := 0) (a := a) (x := x) (by omega))
    have HA : Hid (¬ (0 ≤ a ∧ a < 0)) := fun h => by omega
    go_enter Tryz.func51, Tryz.ntmps51
    go_wp2_with (first | (go_at_call 86; refine (isIndex_yes _ _ _ (by omega)).mono ?_; rintro e w' ⟨rfl, rfl⟩) | (go_at_call 86; refine (isIndex_no _ _ _ HA.out).mono ?_; rintro e w' ⟨rfl, rfl⟩))
    go_ret
    exact ⟨ret_bool E.out.symm, hb1⟩
  · have hb1 : Below w.heap.size w ((w.alloc (.cells #[.int .i64 1, .int .i64 a, .int .i64 x] 110)).alloc (.cells #[.int .i64 336, .int .i64 1099511627776] 146)) := hb0.alloc (by simp) _
    clear c0 c1 c4 c5 c6 c7 c8 c9 c10 c11
    by_cases ha : 0 ≤ a ∧ a < 336
    · by_cases hx : 0 ≤ x ∧ x < 1099511627776
      · have E := hideIt (miB_in (k := 1) (a := a) (x := x) (by omega))
        go_enter Tryz.func51, Tryz.ntmps51
        go_wp2_with (go_at_call 86; refine (isIndex_yes _ _ _ (by omega)).mono ?_; rintro e w' ⟨rfl, rfl⟩)
        go_ret
        exact ⟨ret_bool E.out.symm, hb1⟩
      · have E := hideIt (miB_out (k := 1) (a := a) (x := x) (by omega))
        have HX := hideIt hx
        clear hx
        go_enter Tryz.func51, Tryz.ntmps51
        go_wp2_with (first | (go_at_call 86; refine (isIndex_yes _ _ _ (by omega)).mono ?_; rintro e w' ⟨rfl, rfl⟩) | (go_at_call 86; refine (isIndex_no _ _ _ HX.out).mono ?_; rintro e w' ⟨rfl, rfl⟩))
        go_ret
        exact ⟨ret_bool E.out.symm, hb1⟩
    · have E := hideIt (miB_out (k := 1) (a := a) (x := x) (by omega))
      have HA := hideIt ha
      clear ha
      go_enter Tryz.func51, Tryz.ntmps51
      go_wp2_with (first | (go_at_call 86; refine (isIndex_yes _ _ _ (by omega)).mono ?_; rintro e w' ⟨rfl, rfl⟩) | (go_at_call 86; refine (isIndex_no _ _ _ HA.out).mono ?_; rintro e w' ⟨rfl, rfl⟩))
      go_ret
      exact ⟨ret_bool E.out.symm, hb1⟩
  · have hb1 : Below w.heap.size w ((w.alloc (.cells #[.int .i64 2, .int .i64 a, .int .i64 x] 110)).alloc (.cells #[.int .i64 336, .int .i64 1] 146)) := hb0.alloc (by simp) _
    clear c0 c1 c2 c3 c6 c7 c8 c9 c10 c11
    by_cases ha : 0 ≤ a ∧ a < 336
    · by_cases hx : 0 ≤ x ∧ x < 1
      · have E := hideIt (miB_in (k := 2) (a := a) (x := x) (by omega))
        go_enter Tryz.func51, Tryz.ntmps51
        go_wp2_with (go_at_call 86; refine (isIndex_yes _ _ _ (by omega)).mono ?_; rintro e w' ⟨rfl, rfl⟩)
        go_ret
        exact ⟨ret_bool E.out.symm, hb1⟩
      · have E := hideIt (miB_out (k := 2) (a := a) (x := x) (by omega))
        have HX := hideIt hx
        clear hx
        go_enter Tryz.func51, Tryz.ntmps51
        go_wp2_with (first | (go_at_call 86; refine (isIndex_yes _ _ _ (by omega)).mono ?_; rintro e w' ⟨rfl, rfl⟩) | (go_at_call 86; refine (isIndex_no _ _ _ HX.out).mono ?_; rintro e w' ⟨rfl, rfl⟩))
        go_ret
        exact ⟨ret_bool E.out.symm, hb1⟩
    · have E := hideIt (miB_out (k := 2) (a := a) (x := x) (by omega))
      have HA := hideIt ha
      clear ha
      go_enter Tryz.func51, Tryz.ntmps51
      go_wp2_with (first | (go_at_call 86; refine (isIndex_yes _ _ _ (by omega)).mono ?_; rintro e w' ⟨rfl, rfl⟩) | (go_at_call 86; refine (isIndex_no _ _ _ HA.out).mono ?_; rintro e w' ⟨rfl, rfl⟩))
      go_ret
      exact ⟨ret_bool E.out.symm, hb1⟩
  · have hb1 : Below w.heap.size w ((w.alloc (.cells #[.int .i64 3, .int .i64 a, .int .i64 x] 110)).alloc (.cells #[.int .i64 1, .int .i64 1] 146)) := hb0.alloc (by simp) _
    clear c0 c1 c2 c3 c4 c5 c8 c9 c10 c11
    by_cases ha : 0 ≤ a ∧ a < 1
    · by_cases hx : 0 ≤ x ∧ x < 1
      · have E := hideIt (miB_in (k := 3) (a := a) (x := x) (by omega))
        go_enter Tryz.func51, Tryz.ntmps51
        go_wp2_with (go_at_call 86; refine (isIndex_yes _ _ _ (by omega)).mono ?_; rintro e w' ⟨rfl, rfl⟩)
        go_ret
        exact ⟨ret_bool E.out.symm, hb1⟩
      · have E := hideIt (miB_out (k := 3) (a := a) (x := x) (by omega))
        have HX := hideIt hx
        clear hx
        go_enter Tryz.func51, Tryz.ntmps51
        go_wp2_with (first | (go_at_call 86; refine (isIndex_yes _ _ _ (by omega)).mono ?_; rintro e w' ⟨rfl, rfl⟩) | (go_at_call 86; refine (isIndex_no _ _ _ HX.out).mono ?_; rintro e w' ⟨rfl, rfl⟩))
        go_ret
        exact ⟨ret_bool E.out.symm, hb1⟩
    · have E := hideIt (miB_out (k := 3) (a := a) (x := x) (by omega))
      have HA := hideIt ha
      clear ha
      go_enter Tryz.func51, Tryz.ntmps51
      go_wp2_with (first | (go_at_call 86; refine (isIndex_yes _ _ _ (by omega)).mono ?_; rintro e w' ⟨rfl, rfl⟩) | (go_at_call 86; refine (isIndex_no _ _ _ HA.out).mono ?_; rintro e w' ⟨rfl, rfl⟩))
      go_ret
      exact ⟨ret_bool E.out.symm, hb1⟩
  · have hb1 : Below w.heap.size w ((w.alloc (.cells #[.int .i64 4, .int .i64 a, .int .i64 x] 110)).alloc (.cells #[.int .i64 32, .int .i64 1099511627776] 146)) := hb0.alloc (by simp) _
    clear c0 c1 c2 c3 c4 c5 c6 c7 c10 c11
    by_cases ha : 0 ≤ a ∧ a < 32
    · by_cases hx : 0 ≤ x ∧ x < 1099511627776
      · have E := hideIt (miB_in (k := 4) (a := a) (x := x) (by omega))
        go_enter Tryz.func51, Tryz.ntmps51
        go_wp2_with (go_at_call 86; refine (isIndex_yes _ _ _ (by omega)).mono ?_; rintro e w' ⟨rfl, rfl⟩)
        go_ret
        exact ⟨ret_bool E.out.symm, hb1⟩
      · have E := hideIt (miB_out (k := 4) (a := a) (x := x) (by omega))
        have HX := hideIt hx
        clear hx
        go_enter Tryz.func51, Tryz.ntmps51
        go_wp2_with (first | (go_at_call 86; refine (isIndex_yes _ _ _ (by omega)).mono ?_; rintro e w' ⟨rfl, rfl⟩) | (go_at_call 86; refine (isIndex_no _ _ _ HX.out).mono ?_; rintro e w' ⟨rfl, rfl⟩))
        go_ret
        exact ⟨ret_bool E.out.symm, hb1⟩
    · have E := hideIt (miB_out (k := 4) (a := a) (x := x) (by omega))
      have HA := hideIt ha
      clear ha
      go_enter Tryz.func51, Tryz.ntmps51
      go_wp2_with (first | (go_at_call 86; refine (isIndex_yes _ _ _ (by omega)).mono ?_; rintro e w' ⟨rfl, rfl⟩) | (go_at_call 86; refine (isIndex_no _ _ _ HA.out).mono ?_; rintro e w' ⟨rfl, rfl⟩))
      go_ret
      exact ⟨ret_bool E.out.symm, hb1⟩
  · have hb1 : Below w.heap.size w ((w.alloc (.cells #[.int .i64 5, .int .i64 a, .int .i64 x] 110)).alloc (.cells #[.int .i64 1, .int .i64 1] 146)) := hb0.alloc (by simp) _
    clear c0 c1 c2 c3 c4 c5 c6 c7 c8 c9
    by_cases ha : 0 ≤ a ∧ a < 1
    · by_cases hx : 0 ≤ x ∧ x < 1
      · have E := hideIt (miB_in (k := 5) (a := a) (x := x) (by omega))
        go_enter Tryz.func51, Tryz.ntmps51
        go_wp2_with (go_at_call 86; refine (isIndex_yes _ _ _ (by omega)).mono ?_; rintro e w' ⟨rfl, rfl⟩)
        go_ret
        exact ⟨ret_bool E.out.symm, hb1⟩
      · have E := hideIt (miB_out (k := 5) (a := a) (x := x) (by omega))
        have HX := hideIt hx
        clear hx
        go_enter Tryz.func51, Tryz.ntmps51
        go_wp2_with (first | (go_at_call 86; refine (isIndex_yes _ _ _ (by omega)).mono ?_; rintro e w' ⟨rfl, rfl⟩) | (go_at_call 86; refine (isIndex_no _ _ _ HX.out).mono ?_; rintro e w' ⟨rfl, rfl⟩))
        go_ret
        exact ⟨ret_bool E.out.symm, hb1⟩
    · have E := hideIt (miB_out (k := 5) (a := a) (x := x) (by omega))
      have HA := hideIt ha
      clear ha
      go_enter Tryz.func51, Tryz.ntmps51
      go_wp2_with (first | (go_at_call 86; refine (isIndex_yes _ _ _ (by omega)).mono ?_; rintro e w' ⟨rfl, rfl⟩) | (go_at_call 86; refine (isIndex_no _ _ _ HA.out).mono ?_; rintro e w' ⟨rfl, rfl⟩))
      go_ret
      exact ⟨ret_bool E.out.symm, hb1⟩
/-- All steps are right. -/
def misB (ps : List Mi) : Bool := decide (∀ k (h : k < ps.length), miB ps[k] = true)
theorem misB_true {ps : List Mi} (h : misB ps = true) : ∀ k (h : k < ps.length), miB ps[k] = true := of_decide_eq_true h
theorem misB_mk {ps : List Mi} (h : ∀ k (h : k < ps.length), miB ps[k] = true) : misB ps = true := decide_eq_true h
theorem misB_not {ps : List Mi} {k : Nat} (hk : k < ps.length) (h : miB ps[k] = false) : misB ps = false := decide_eq_false (fun x => by have := x k hk; rw [h] at this; cases this)
set_option maxHeartbeats 4000000 in
theorem everyStep_any (v : Value) (ps : List Mi) (w : World) (hS : SB w) (h : RdM w v ps) (hn : ps.length ≤ 1048576) :
    Calls Tryz.prog 50 #[v, .func (.func 51) #[] #[]] w fun e w' => e = .returned (.bool (misB ps)) ∧ Below w.heap.size w w' := by
  obtain ⟨aP, cP, rfl, _, hcP⟩ := h.shape
  have HS := hideIt hS
  clear h hS
  go_enter Tryz.func50, Tryz.ntmps50
  go_wp2
  go_loopw [6, 9] (fun _ i wr => ∃ k : Nat, k ≤ ps.length ∧ i = .int .i64 k ∧ Hid (∀ j (h : j < ps.length), j < k → miB ps[j] = true) ∧ Below w.heap.size w wr) (fun _ i _ => ps.length - (intOf i).toNat)
  case atStart => exact ⟨0, by omega, rfl, fun j h a => absurd a (by omega), Below.refl _ _⟩
  case round =>
    obtain ⟨m, hm, rfl, H, hbw⟩ := hrel
    have hz := hbw.size
    by_cases hlt2 : m < ps.length
    · obtain ⟨b2, o2, rfl, hbl2, hcell2⟩ := hcP (by omega)
      obtain ⟨d0, d1, d2⟩ := hcell2 m hlt2
      have e0 := (hbw.cell (p := ⟨b2, o2 + m * 3, none⟩) hbl2).trans d0
      have e1 := (hbw.cell (p := ⟨b2, o2 + m * 3 + 1, none⟩) hbl2).trans d1
      have e2 := (hbw.cell (p := ⟨b2, o2 + m * 3 + 2, none⟩) hbl2).trans d2
      have hb1 := hideIt (hbw.alloc hz (.cells #[.int .i64 ps[m].kind, .int .i64 ps[m].at_, .int .i64 ps[m].val] 110))
      clear d0 d1 d2 hcell2 hcP
      by_cases q : miB ps[m] = true
      · have Q := hideIt q
        clear q
        go_wp2_with (go_at_call 51; refine (isStep_of ps[m].kind ps[m].at_ ps[m].val _ (HS.out.below hb1.out)).mono ?_; rw [Q.out]; rintro e w' ⟨rfl, hw'⟩)
        have hw2 := hb1.out.trans (hw'.mono (by simp; omega))
        clear hb1 hw'
        go_roundw
        case rel =>
          refine ⟨m + 1, by omega, by go_num, fun j h a => ?_, hw2⟩
          by_cases e : j = m
          · subst e; exact Q.out
          · exact H.out j h (by omega)
        case measure => simp [intOf]; omega
      · have Q := hideIt (show miB ps[m] = false by simpa using q)
        have E := hideIt (misB_not hlt2 Q.out)
        clear q
        go_wp2_with (go_at_call 51; refine (isStep_of ps[m].kind ps[m].at_ ps[m].val _ (HS.out.below hb1.out)).mono ?_; rw [Q.out]; rintro e w' ⟨rfl, hw'⟩)
        have hw2 := hb1.out.trans (hw'.mono (by simp; omega))
        go_ret
        exact ⟨ret_bool E.out.symm, hw2⟩
    · have E := hideIt (misB_mk (fun j h => H.out j h (by omega)))
      go_wp2
      go_ret
      exact ⟨ret_bool E.out.symm, hbw⟩
end Go.Proofs.YtbjjdkemappelaaGreatDoor

namespace Go.Proofs.YtbjjdkemappelaaGreatDoor
open Go.RowKit

/-- What one step stores to that is not used. -/
def lsO (V1 V2 : List Int) (m : Mi) : List Int := if m.kind = 1 ∧ 312 ≤ m.at_ ∧ hasB V1 (m.at_ - 312) = false then [m.at_ - 312] else if m.kind = 4 ∧ hasB V2 m.at_ = false then [100 + m.at_] else []
def lsL (V1 V2 : List Int) (l : List Mi) : List Int := l.flatMap (lsO V1 V2)
def lsR (ws : List Int) (ps : List St) (es : List Int) (qs : List Se) (l : List Mi) : List Int × Int := if 4096 < l.length then ([], 2) else if dvB ws ps es qs = true then (if misB l = true then (lsL (usedOf (mapped (dvN ws ps es qs)) 1) (usedOf (mapped (dvN ws ps es qs)) 2) l, 0) else ([], 3)) else ([], 1)
theorem lsO_one (V1 V2 : List Int) (m : Mi) : (lsO V1 V2 m).length ≤ 1 := by
  unfold lsO
  split
  · exact Nat.le_refl _
  · split
    · exact Nat.le_refl _
    · exact Nat.zero_le _
theorem lsL_take {V1 V2 : List Int} {l : List Mi} {k : Nat} (h : k < l.length) : lsL V1 V2 (l.take (k + 1)) = lsL V1 V2 (l.take k) ++ lsO V1 V2 l[k] := by
  unfold lsL
  rw [List.take_succ_eq_append_getElem h, List.flatMap_append]
  simp
theorem lsL_len (V1 V2 : List Int) : ∀ l : List Mi, (lsL V1 V2 l).length ≤ l.length
  | [] => Nat.le_refl _
  | m :: l => by
    have := lsO_one V1 V2 m
    have := lsL_len V1 V2 l
    unfold lsL at *
    rw [List.flatMap_cons, List.length_append, List.length_cons]
    omega
theorem lsR_len (ws : List Int) (ps : List St) (es : List Int) (qs : List Se) (l : List Mi) (h : l.length ≤ 1048576) : (lsR ws ps es qs l).1.length ≤ 1048576 := by
  unfold lsR
  split
  · exact Nat.zero_le _
  · split
    · split
      · exact Nat.le_trans (lsL_len _ _ l) h
      · exact Nat.zero_le _
    · exact Nat.zero_le _
/-- The ways of one step that is right. -/
theorem ls_ways (V1 V2 : List Int) (m : Mi) (h : miB m = true) :
    (m.kind = 1 ∧ 312 ≤ m.at_ ∧ m.at_ < 336 ∧ hasB V1 (m.at_ - 312) = false ∧ lsO V1 V2 m = [m.at_ - 312]) ∨ (m.kind = 1 ∧ 312 ≤ m.at_ ∧ m.at_ < 336 ∧ hasB V1 (m.at_ - 312) = true ∧ lsO V1 V2 m = []) ∨ (m.kind = 1 ∧ 0 ≤ m.at_ ∧ m.at_ < 312 ∧ lsO V1 V2 m = []) ∨
    (m.kind = 4 ∧ 0 ≤ m.at_ ∧ m.at_ < 32 ∧ hasB V2 m.at_ = false ∧ lsO V1 V2 m = [100 + m.at_]) ∨ (m.kind = 4 ∧ 0 ≤ m.at_ ∧ m.at_ < 32 ∧ hasB V2 m.at_ = true ∧ lsO V1 V2 m = []) ∨ ((m.kind == 1) = false ∧ (m.kind == 4) = false ∧ 0 ≤ m.at_ ∧ m.at_ < 336 ∧ lsO V1 V2 m = []) := by
  have h := miB_iff.1 h
  have e : lsO V1 V2 m = if m.kind = 1 ∧ 312 ≤ m.at_ ∧ hasB V1 (m.at_ - 312) = false then [m.at_ - 312] else if m.kind = 4 ∧ hasB V2 m.at_ = false then [100 + m.at_] else [] := rfl
  by_cases k1 : m.kind = 1
  · by_cases a : 312 ≤ m.at_
    · cases q : hasB V1 (m.at_ - 312) with
      | false => exact .inl ⟨k1, a, by omega, rfl, by rw [e, if_pos ⟨k1, a, q⟩]⟩
      | true => exact .inr (.inl ⟨k1, a, by omega, rfl, by rw [e, if_neg (fun h => by rw [q] at h; exact absurd h.2.2 (by decide)), if_neg (fun h => by omega)]⟩)
    · exact .inr (.inr (.inl ⟨k1, by omega, by omega, by rw [e, if_neg (fun h => a h.2.1), if_neg (fun h => by omega)]⟩))
  · by_cases k4 : m.kind = 4
    · cases q : hasB V2 m.at_ with
      | false => exact .inr (.inr (.inr (.inl ⟨k4, by omega, by omega, rfl, by rw [e, if_neg (fun h => k1 h.1), if_pos ⟨k4, q⟩]⟩)))
      | true => exact .inr (.inr (.inr (.inr (.inl ⟨k4, by omega, by omega, rfl, by rw [e, if_neg (fun h => k1 h.1), if_neg (fun h => by rw [q] at h; exact absurd h.2 (by decide))]⟩))))
    · exact .inr (.inr (.inr (.inr (.inr ⟨by rw [beq_eq_false_iff_ne]; exact k1, by rw [beq_eq_false_iff_ne]; exact k4, by omega, by omega, by rw [e, if_neg (fun h => k1 h.1), if_neg (fun h => k4 h.1)]⟩))))

theorem triU {w : World} {b : Nat} {t : TypeId} {x y z : Value} (h : w.heap[b]? = some (.cells #[x, y, z] t (0, 0))) : w.cell? ⟨b, 0, none⟩ = some x ∧ w.cell? ⟨b, 1, none⟩ = some y ∧ w.cell? ⟨b, 2, none⟩ = some z := by
  simp [World.cell?, h]
set_option maxRecDepth 100000 in
set_option maxHeartbeats 8000000 in
theorem specLoose_any (v : Value) (ws : List Int) (ps : List St) (es : List Int) (qs : List Se) (vL : Value) (l : List Mi) (w : World) (h : RdDev w v ws ps es qs) (hl : RdM w vL l) (hw : ws.length ≤ 1048576) (hp : ps.length ≤ 1048576) (he : es.length ≤ 1048576) (hq : qs.length ≤ 1048576) (hn : l.length ≤ 1048576) :
    Calls Tryz.prog 20 #[v, vL] w fun e w' => ∃ v', e = .returned (.tuple #[v', .int .i64 (lsR ws ps es qs l).2]) ∧ Row w' 3 1 w.heap.size w'.heap.size v' (lsR ws ps es qs l).1.length (ints (lsR ws ps es qs l).1) ∧ Below w.heap.size w w' := by
  have RE := hideIt (fun w1 : World => And.intro (row_none3 w1) ((Below.refl w1.heap.size w1).alloc (Nat.le_refl _) (.cells #[] 3)))
  obtain ⟨aM, cM, rfl, _, hcM⟩ := hl.shape
  have HM := hideIt hcM
  clear hl hcM
  have LA := hideIt (fun w1 (hb : Below w.heap.size w w1) => l08Image_any v ws ps es qs w1 (h.below hb) hw hp he hq)
  obtain ⟨aW, cW, aP, cP, aS, cS, aQ, cQ, rfl, -, -⟩ := h.form
  have BW : Hid (Below w.heap.size w (w.alloc (.cells #[.slice aW ws.length cW, .slice aP ps.length cP, .slice aS es.length cS, .slice aQ qs.length cQ] 41))) := (Below.refl _ _).alloc (Nat.le_refl _) _
  obtain ⟨x0, x1, x2, x3, -, -, -, -⟩ := fourU (at_new (w := w) (o := .cells #[.slice aW ws.length cW, .slice aP ps.length cP, .slice aS es.length cS, .slice aQ qs.length cQ] 41) rfl)
  clear h
  by_cases c0 : 4096 < l.length
  · rw [show lsR ws ps es qs l = ([], 2) by unfold lsR; rw [if_pos c0]]
    have c0' : (4096 : Int) < (l.length : Int) := by omega
    clear x0 x1 x2 x3 LA
    go_enter Tryz.func20, Tryz.ntmps20
    have R0 := (RE.out (w.alloc (.cells #[.slice aW ws.length cW, .slice aP ps.length cP, .slice aS es.length cS, .slice aQ qs.length cQ] 41))).1.wide BW.out.size (Nat.le_refl _)
    rw [show (w.alloc (.cells #[.slice aW ws.length cW, .slice aP ps.length cP, .slice aS es.length cS, .slice aQ qs.length cQ] 41)).heap.size = w.heap.size + 1 from World.size_alloc _ _] at R0
    have R0 := hideIt R0
    go_wp2
    go_ret2
    exact ⟨_, rfl, R0.out, below_trans BW.out (RE.out _).2 BW.out.size⟩
  have c0' : ¬ (4096 : Int) < (l.length : Int) := by omega
  have LR : Hid (lsR ws ps es qs l = if dvB ws ps es qs = true then (if misB l = true then (lsL (usedOf (mapped (dvN ws ps es qs)) 1) (usedOf (mapped (dvN ws ps es qs)) 2) l, 0) else ([], 3)) else ([], 1)) := by unfold Hid lsR; rw [if_neg c0]
  generalize lsR ws ps es qs l = R at *
  cases ok : dvB ws ps es qs with
  | false =>
    rw [ok, if_neg (by decide)] at LR
    obtain rfl := LR.out
    rw [ok] at LA
    clear ok LR
    generalize dvN ws ps es qs = dn at *
    generalize dvD ws ps es qs = dd at *
    go_enter Tryz.func20, Tryz.ntmps20
    go_wp2_with fail
    refine (LA.out _ BW.out).mono ?_
    rintro e w1 ⟨v1, rfl, ⟨vI, vD, rfl, hI, hD⟩, hb1⟩
    obtain ⟨-, a1, c1, hv1, -⟩ := hI.rd
    obtain ⟨-, a2, c2, hv2, -⟩ := hD.rd
    subst hv1
    subst hv2
    have B1 := hideIt ((below_trans BW.out hb1 BW.out.size).alloc (Nat.le_trans BW.out.size hb1.size) (.cells #[.slice a1 dn.length c1, .slice a2 dd.length c2] 76))
    clear hI hD hb1 x0 x1 x2 x3
    have R0 := (RE.out (w1.alloc (.cells #[.slice a1 dn.length c1, .slice a2 dd.length c2] 76))).1.wide B1.out.size (Nat.le_refl _)
    rw [show (w1.alloc (.cells #[.slice a1 dn.length c1, .slice a2 dd.length c2] 76)).heap.size = w1.heap.size + 1 from World.size_alloc _ _] at R0
    have R0 := hideIt R0
    go_wp2
    go_ret2
    exact ⟨_, rfl, R0.out, below_trans B1.out (RE.out _).2 B1.out.size⟩
  | true =>
    rw [ok, if_pos rfl] at LR
    have i : imgB (dvN ws ps es qs) (dvD ws ps es qs) = true := by rw [dv_img]; exact ok
    have nl := (img_parts i).1
    have LU := hideIt (fun t v1 w1 h => l05Used_any v1 (dvN ws ps es qs) (dvD ws ps es qs) t w1 h (by omega) (img_small i))
    have ML : (mapped (dvN ws ps es qs)).length ≤ 128 := by have := mapped_len (dvN ws ps es qs); omega
    have UL := hideIt (fun t => Nat.le_trans (usedOf_len (mapped (dvN ws ps es qs)) t) ML)
    have HL1 := hideIt (UL.out 1)
    have HL2 := hideIt (UL.out 2)
    rw [ok] at LA
    have L1 := hideIt (LU.out 1)
    have L2 := hideIt (LU.out 2)
    clear ok i nl ML UL LU
    generalize (usedOf (mapped (dvN ws ps es qs)) 1) = V1 at *
    generalize (usedOf (mapped (dvN ws ps es qs)) 2) = V2 at *
    generalize dvN ws ps es qs = dn at *
    generalize dvD ws ps es qs = dd at *
    go_enter Tryz.func20, Tryz.ntmps20
    go_wp2_with fail
    refine (LA.out _ BW.out).mono ?_
    rintro e w1 ⟨v1, rfl, ⟨vI, vD, rfl, hI, hD⟩, hb1⟩
    have R1 : Hid (RowIm w1 (w.alloc (.cells #[.slice aW ws.length cW, .slice aP ps.length cP, .slice aS es.length cS, .slice aQ qs.length cQ] 41)).heap.size w1.heap.size (.agg #[vI, vD]) dn dd) := ⟨_, _, rfl, hI, hD⟩
    obtain ⟨-, a1, c1, hv1, -⟩ := hI.rd
    obtain ⟨-, a2, c2, hv2, -⟩ := hD.rd
    subst hv1
    subst hv2
    obtain ⟨w2, hw2⟩ : ∃ w2, w2 = w1.alloc (.cells #[.slice a1 dn.length c1, .slice a2 dd.length c2] 76) := ⟨_, rfl⟩
    have B2 : Hid (Below w.heap.size w w2) := by rw [hw2]; exact (below_trans BW.out hb1 BW.out.size).alloc (Nat.le_trans BW.out.size hb1.size) _
    have R2 : Hid (RdIm w2 (.agg #[.slice a1 dn.length c1, .slice a2 dd.length c2]) dn dd) := by rw [hw2]; exact R1.out.rd.below ((Below.refl _ _).alloc (Nat.le_refl _) _)
    have I2 : Hid (w2.heap[w1.heap.size]? = some (.cells #[.slice a1 dn.length c1, .slice a2 dd.length c2] 76 (0, 0))) := by rw [hw2]; exact at_new rfl
    have hz2 : w1.heap.size < w2.heap.size := by rw [hw2]; simp
    have IK : Hid (∀ w', Below w2.heap.size w2 w' → w'.cell? ⟨w1.heap.size, 0, none⟩ = some (.slice a1 dn.length c1) ∧ w'.cell? ⟨w1.heap.size, 1, none⟩ = some (.slice a2 dd.length c2)) := fun w' hb => two_keep ((hb.block _ hz2).trans I2.out)
    clear hI hD hb1 R1 x0 x1 x2 x3
    obtain ⟨y0, y1⟩ := IK.out _ (Below.refl _ _)
    go_upto_region 6 with fail
    rw [← hw2]
    clear hw2
    go_wp2_with fail
    refine (L1.out _ _ R2.out).mono ?_
    rintro e w3 ⟨v3, rfl, hr3, hb3⟩
    obtain ⟨-, aU, cU, hvU, -⟩ := hr3.rd
    subst hvU
    have Q3 : Hid (RdI w3 (.slice aU V1.length cU) V1) := hr3.rd
    have B3 := hideIt (below_trans B2.out hb3 B2.out.size)
    have R3 := hideIt (R2.out.below hb3)
    clear y0 y1 hr3
    obtain ⟨y0, y1⟩ := IK.out _ hb3
    clear hb3
    go_wp2_with fail
    refine (L2.out _ _ R3.out).mono ?_
    rintro e w4 ⟨v4, rfl, hr4, hb4⟩
    obtain ⟨-, aX, cX, hvX, -⟩ := hr4.rd
    subst hvX
    have Q4 : Hid (RdI w4 (.slice aX V2.length cX) V2) := hr4.rd
    have P4 := hideIt (Rd.below Q3.out hb4)
    have B4 := hideIt (below_trans B3.out hb4 B3.out.size)
    clear hb4 hr4 y0 y1 IK I2 R2 R3 Q3 B3 B2 L1 L2 LA
    have START : Hid (InI w4 (w4.alloc (.cells #[] 3)) (.slice (some ⟨w4.heap.size, 0, none⟩) 0 0) (lsL V1 V2 (l.take 0))) := ⟨World.ownsRow_lit w4 #[] 0 (Nat.le_refl _) (by simp [maxLen]) (by simp), (Below.refl _ _).alloc (Nat.le_refl _) _⟩
    have h1 : V1.length ≤ 128 := HL1.out
    have h2 : V2.length ≤ 128 := HL2.out
    have hz4 : w.heap.size ≤ w4.heap.size := B4.out.size
    go_wp2
    go_loopg [10, 11, 12] l.length (fun g vO iv _ wr => ∃ k : Nat, k + g = l.length ∧ iv = .int .i64 k ∧ Hid (InI w4 wr vO (lsL V1 V2 (l.take k))) ∧ Hid (∀ j (h : j < l.length), j < k → miB l[j] = true))
    case atStart => exact ⟨0, by omega, rfl, START.out, fun j _ h => absurd h (by omega)⟩
    case round =>
      obtain ⟨k, hk, rfl, I, G⟩ := hrel
      clear START
      have hzr : w4.heap.size ≤ wr.heap.size := I.out.z
      by_cases hlt : k < l.length
      · obtain ⟨b, o, rfl, hbl, hcell⟩ := HM.out (by omega)
        obtain ⟨e0, e1, e2⟩ := hcell k hlt
        have Bwr := hideIt (below_trans B4.out I.out.b hz4)
        have d0 := (Bwr.out.cell (p := ⟨b, o + k * 3, none⟩) hbl).trans e0
        have d1 := (Bwr.out.cell (p := ⟨b, o + k * 3 + 1, none⟩) hbl).trans e1
        have d2 := (Bwr.out.cell (p := ⟨b, o + k * 3 + 2, none⟩) hbl).trans e2
        have k0 : (0 : Int) ≤ (k : Int) := by omega
        have k1 : (k : Int) < (l.length : Int) := by omega
        have LT := hideIt (lsL_take (V1 := V1) (V2 := V2) hlt)
        have LN := lsL_len V1 V2 (l.take k)
        rw [List.length_take] at LN
        have LM := hideIt (fun w1 => l04Micro_any l[k] w1)
        have MB : Hid (miB l[k] = false → misB l = false) := fun q => misB_not hlt q
        have MG : Hid (miB l[k] = true → ∀ j (h : j < l.length), j < k + 1 → miB l[j] = true) := fun q j hj hjk => by
          by_cases e : j = k
          · subst e; exact q
          · exact G.out j hj (by omega)
        have WY := hideIt (ls_ways V1 V2 l[k])
        clear hcell e0 e1 e2 G
        obtain ⟨W5, hW5⟩ : ∃ W5, W5 = wr.alloc (.cells #[.int .i64 l[k].kind, .int .i64 l[k].at_, .int .i64 l[k].val] 110) := ⟨_, rfl⟩
        have B5 : Hid (Below wr.heap.size wr W5) := by rw [hW5]; exact (Below.refl _ _).alloc (Nat.le_refl _) _
        have X5 : Hid (W5.heap[wr.heap.size]? = some (.cells #[.int .i64 l[k].kind, .int .i64 l[k].at_, .int .i64 l[k].val] 110 (0, 0))) := by rw [hW5]; exact at_new rfl
        have z5 : wr.heap.size < W5.heap.size := by rw [hW5]; simp
        obtain ⟨f0, f1, f2⟩ := triU X5.out
        unfold Mi.v at LM
        generalize hmm : l[k] = m at *
        obtain ⟨mk, ma, mv⟩ := m
        simp only at *
        go_upto_region 13 with fail
        rw [← hW5]
        clear hW5 d0 d1 d2
        go_wp2_with fail
        refine (LM.out _).mono ?_
        rintro e w6 ⟨rfl, hb6⟩
        have B6 := hideIt (below_trans B5.out hb6 B5.out.size)
        have I6 := hideIt (I.out.below B6.out)
        have hz6 : W5.heap.size ≤ w6.heap.size := hb6.size
        have P6 := hideIt (Rd.below P4.out I6.out.b)
        have Q6 := hideIt (Rd.below Q4.out I6.out.b)
        clear f0 f1 f2
        have X6 := hideIt ((hb6.block _ z5).trans X5.out)
        obtain ⟨f0, f1, f2⟩ := triU X6.out
        clear hb6 I
        cases q : miB (⟨mk, ma, mv⟩ : Mi) with
        | false =>
          rw [MB.out q, if_neg (by decide)] at LR
          have E9 := hideIt (below_trans (below_trans B4.out I6.out.b hz4) (RE.out w6).2 (below_trans B4.out I6.out.b hz4).size)
          clear q
          go_wp2
          go_ret2
          obtain rfl := LR.out
          exact ⟨_, rfl, (RE.out _).1.wide (below_trans B4.out I6.out.b hz4).size (Nat.le_refl _), E9.out⟩
        | true =>
          have G' := hideIt (MG.out q)
          have WW := WY.out q
          clear q MB MG WY LM
          have hzN0 := I6.out.z
          rcases WW with ⟨rfl, u1, u2, u3, u4⟩ | ⟨rfl, u1, u2, u3, u4⟩ | ⟨rfl, u1, u2, u4⟩ | ⟨rfl, u1, u2, u3, u4⟩ | ⟨rfl, u1, u2, u3, u4⟩ | ⟨u5, u6, u1, u2, u4⟩
          all_goals
            replace LT := hideIt (LT.out.trans (congrArg (lsL V1 V2 (l.take k) ++ ·) u4))
            clear u4
          · have LH := hideIt (l05Has_any _ V1 (ma - 312) _ P6.out (by omega))
            rw [u3] at LH
            have JB : Hid (InI w4 (w6.alloc (.cells #[.int .i64 (ma - 312)] 3)) u10 (lsL V1 V2 (l.take k))) := I6.out.below ((Below.refl _ _).alloc (Nat.le_refl _) _)
            have RB := hideIt (rd_int w6 (ma - 312))
            have hzb := JB.out.z
            go_wp2_with (first
              | (go_at_call 37; refine (LH.out).mono ?_; rintro e w' ⟨rfl, rfl⟩)
              | (at_builtin; refine wpList_append_rd _ rfl (.tmp 60) (.tmp 64) 22 rfl w4.heap.size 3 (.int .i64 0) 1 8 Tryz.underlying22 info3 rfl (by decide) _ _ _ rfl JB.out.l _ 1 _ rfl RB.out (one_int _) (by simp [maxLen]; omega) (by omega) (by omega) ?_))
            intro vN wN hownN hgrN
            have G := hideIt (JB.out.grow (ma - 312) hownN hgrN)
            rw [← LT.out] at G
            have hzN := G.out.z
            have f0N := (hgrN.cell_far ⟨wr.heap.size, 0, none⟩ (by simp; omega) (Ne.symm (own_type JB.out.l (at_old X6.out) (by decide)))).trans (triU (at_old X6.out)).1
            clear hownN hgrN JB RB
            go_wp2
            go_roundg (gk - 1)
            case measure => omega
            case rel => exact ⟨k + 1, by omega, by go_num, G.out, G'.out⟩
          · have LH := hideIt (l05Has_any _ V1 (ma - 312) _ P6.out (by omega))
            rw [u3] at LH
            go_wp2_with (go_at_call 37; refine (LH.out).mono ?_; rintro e w' ⟨rfl, rfl⟩)
            go_roundg (gk - 1)
            case measure => omega
            case rel => exact ⟨k + 1, by omega, by go_num, (by rw [LT.out, List.append_nil]; exact I6.out), G'.out⟩
          · go_wp2
            go_roundg (gk - 1)
            case measure => omega
            case rel => exact ⟨k + 1, by omega, by go_num, (by rw [LT.out, List.append_nil]; exact I6.out), G'.out⟩
          · have LH := hideIt (l05Has_any _ V2 (ma) _ Q6.out (by omega))
            rw [u3] at LH
            have JB : Hid (InI w4 (w6.alloc (.cells #[.int .i64 (100 + ma)] 3)) u10 (lsL V1 V2 (l.take k))) := I6.out.below ((Below.refl _ _).alloc (Nat.le_refl _) _)
            have RB := hideIt (rd_int w6 (100 + ma))
            have hzb := JB.out.z
            go_wp2_with (first
              | (go_at_call 37; refine (LH.out).mono ?_; rintro e w' ⟨rfl, rfl⟩)
              | (at_builtin; refine wpList_append_rd _ rfl (.tmp 76) (.tmp 80) 22 rfl w4.heap.size 3 (.int .i64 0) 1 8 Tryz.underlying22 info3 rfl (by decide) _ _ _ rfl JB.out.l _ 1 _ rfl RB.out (one_int _) (by simp [maxLen]; omega) (by omega) (by omega) ?_))
            intro vN wN hownN hgrN
            have G := hideIt (JB.out.grow (100 + ma) hownN hgrN)
            rw [← LT.out] at G
            have hzN := G.out.z
            have f0N := (hgrN.cell_far ⟨wr.heap.size, 0, none⟩ (by simp; omega) (Ne.symm (own_type JB.out.l (at_old X6.out) (by decide)))).trans (triU (at_old X6.out)).1
            clear hownN hgrN JB RB
            go_wp2
            go_roundg (gk - 1)
            case measure => omega
            case rel => exact ⟨k + 1, by omega, by go_num, G.out, G'.out⟩
          · have LH := hideIt (l05Has_any _ V2 (ma) _ Q6.out (by omega))
            rw [u3] at LH
            go_wp2_with (go_at_call 37; refine (LH.out).mono ?_; rintro e w' ⟨rfl, rfl⟩)
            go_roundg (gk - 1)
            case measure => omega
            case rel => exact ⟨k + 1, by omega, by go_num, (by rw [LT.out, List.append_nil]; exact I6.out), G'.out⟩
          · go_wp2
            go_roundg (gk - 1)
            case measure => omega
            case rel => exact ⟨k + 1, by omega, by go_num, (by rw [LT.out, List.append_nil]; exact I6.out), G'.out⟩
      · obtain rfl : k = l.length := by omega
        have MT : misB l = true := misB_mk (fun j hj => G.out j hj hj)
        rw [MT, if_pos rfl] at LR
        rw [List.take_length] at I
        obtain ⟨-, aL, cL, hvL, -⟩ := (own_block I.out.l).rd
        subst hvL
        have E9 := hideIt (below_trans B4.out I.out.b hz4)
        have R9 := hideIt ((own_block I.out.l).wide hz4 (Nat.le_refl _))
        go_wp2
        go_ret2
        obtain rfl := LR.out
        exact ⟨_, rfl, R9.out, E9.out⟩
end Go.Proofs.YtbjjdkemappelaaGreatDoor

namespace Go.Proofs.YtbjjdkemappelaaGreatDoor
open Go.RowKit

theorem below_drewU {B : Nat} {a w : World} (h : Below B a w) (q : Nat) : Below B a (w.drewN q) := ⟨h.os, h.tape, h.output, h.size, h.block⟩

set_option maxRecDepth 100000 in
set_option maxHeartbeats 4000000 in
theorem pageStored_any (mk ma mv : Int) (w : World) (h0 : 0 ≤ ma) (h1 : ma < 336) :
    Calls Tryz.prog 52 #[.agg #[.int .i64 mk, .int .i64 ma, .int .i64 mv]] w fun e w' => e = .returned (.tuple #[.int .i64 (ma - 312), .bool (decide (mk = 1 ∧ 312 ≤ ma))]) ∧ Below w.heap.size w w' := by
  have BW : Hid (Below w.heap.size w (w.alloc (.cells #[.int .i64 mk, .int .i64 ma, .int .i64 mv] 110))) := (Below.refl _ _).alloc (Nat.le_refl _) _
  obtain ⟨f0, f1, f2⟩ := triU (at_new (w := w) (o := .cells #[.int .i64 mk, .int .i64 ma, .int .i64 mv] 110) rfl)
  by_cases c1 : mk = 1
  · subst c1
    rw [show decide ((1 : Int) = 1 ∧ 312 ≤ ma) = decide (312 ≤ ma) from decide_eq_decide.2 ⟨fun h => h.2, fun h => ⟨rfl, h⟩⟩]
    go_enter Tryz.func52, Tryz.ntmps52
    go_wp2_with fail
    go_quiet (fail)
    go_wp2
    go_ret2
    exact ⟨rfl, by repeat (first | exact BW.out | refine below_drewU ?_ _ | refine Below.drew ?_)⟩
  · rw [decide_eq_false (show ¬ (mk = 1 ∧ 312 ≤ ma) from fun h => c1 h.1)]
    have c1' : (mk == 1) = false := by rw [beq_eq_false_iff_ne]; exact c1
    go_enter Tryz.func52, Tryz.ntmps52
    go_wp2_with fail
    go_quiet (fail)
    go_wp2
    go_ret2
    exact ⟨rfl, by repeat (first | exact BW.out | refine below_drewU ?_ _ | refine Below.drew ?_)⟩

set_option maxRecDepth 100000 in
set_option maxHeartbeats 4000000 in
theorem sectorWritten_any (mk ma mv : Int) (w : World) :
    Calls Tryz.prog 54 #[.agg #[.int .i64 mk, .int .i64 ma, .int .i64 mv]] w fun e w' => e = .returned (.tuple #[.int .i64 ma, .bool (mk == 4)]) ∧ Below w.heap.size w w' := by
  have BW : Hid (Below w.heap.size w (w.alloc (.cells #[.int .i64 mk, .int .i64 ma, .int .i64 mv] 110))) := (Below.refl _ _).alloc (Nat.le_refl _) _
  obtain ⟨f0, f1, f2⟩ := triU (at_new (w := w) (o := .cells #[.int .i64 mk, .int .i64 ma, .int .i64 mv] 110) rfl)
  go_enter Tryz.func54, Tryz.ntmps54
  go_wp2_with fail
  go_quiet (fail)
  go_wp2
  go_ret2
  exact ⟨rfl, by repeat (first | exact BW.out | refine below_drewU ?_ _ | refine Below.drew ?_)⟩

set_option maxRecDepth 100000 in
set_option maxHeartbeats 16000000 in
theorem implLoose_any (v : Value) (ws : List Int) (ps : List St) (es : List Int) (qs : List Se) (vL : Value) (l : List Mi) (w : World) (h : RdDev w v ws ps es qs) (hl : RdM w vL l) (hw : ws.length ≤ 1048576) (hp : ps.length ≤ 1048576) (he : es.length ≤ 1048576) (hq : qs.length ≤ 1048576) (hn : l.length ≤ 1048576) (hT : TS w) (hE : ED w) (hF : FD w) (hS : SB w) :
    Calls Tryz.prog 22 #[v, vL] w fun e w' => ∃ v', e = .returned (.tuple #[v', .int .i64 (lsR ws ps es qs l).2]) ∧ Row w' 3 1 w.heap.size w'.heap.size v' (lsR ws ps es qs l).1.length (ints (lsR ws ps es qs l).1) ∧ Below w.heap.size w w' := by
  have LN := hideIt (fun w1 (hb : Below w.heap.size w w1) o => auditOf_no v ws ps es qs w1 (h.below hb) hw hp he hq (hT.below hb) (hE.below hb) (hF.below hb) o)
  have LY := hideIt (fun w1 (hb : Below w.heap.size w w1) o => auditOf_yes v ws ps es qs w1 (h.below hb) hw hp he hq (hT.below hb) (hE.below hb) (hF.below hb) o)
  have LE := hideIt (fun w1 (hb : Below w.heap.size w w1) => everyStep_any vL l w1 (hS.below hb) (Rd.below hl hb) hn)
  obtain ⟨aM, cM, rfl, _, hcM⟩ := hl.shape
  have HM := hideIt hcM
  clear hl hcM
  obtain ⟨aW, cW, aP, cP, aS, cS, aQ, cQ, rfl, -, -⟩ := h.form
  have BW : Hid (Below w.heap.size w (w.alloc (.cells #[.slice aW ws.length cW, .slice aP ps.length cP, .slice aS es.length cS, .slice aQ qs.length cQ] 41))) := (Below.refl _ _).alloc (Nat.le_refl _) _
  obtain ⟨x0, x1, x2, x3, -, -, -, -⟩ := fourU (at_new (w := w) (o := .cells #[.slice aW ws.length cW, .slice aP ps.length cP, .slice aS es.length cS, .slice aQ qs.length cQ] 41) rfl)
  clear h hT hE hF hS
  by_cases c0 : 4096 < l.length
  · rw [show lsR ws ps es qs l = ([], 2) by unfold lsR; rw [if_pos c0]]
    have c0' : (4096 : Int) < (l.length : Int) := by omega
    clear x0 x1 x2 x3
    go_enter Tryz.func22, Tryz.ntmps22
    go_wp2
    go_ret2
    exact ⟨_, rfl, Row.nil _ _ _ _ _, BW.out⟩
  have c0' : ¬ (4096 : Int) < (l.length : Int) := by omega
  have LR : Hid (lsR ws ps es qs l = if dvB ws ps es qs = true then (if misB l = true then (lsL (usedOf (mapped (dvN ws ps es qs)) 1) (usedOf (mapped (dvN ws ps es qs)) 2) l, 0) else ([], 3)) else ([], 1)) := by unfold Hid lsR; rw [if_neg c0]
  generalize lsR ws ps es qs l = R at *
  cases ok : dvB ws ps es qs with
  | false =>
    rw [ok, if_neg (by decide)] at LR
    obtain rfl := LR.out
    clear LR
    go_enter Tryz.func22, Tryz.ntmps22
    go_wp2_with fail
    refine (LN.out _ BW.out ok).mono ?_
    rintro e w1 ⟨rfl, hb1⟩
    have B1 := hideIt ((below_trans BW.out hb1 BW.out.size).alloc (Nat.le_trans BW.out.size hb1.size) (.cells #[.slice none 0 0, .slice none 0 0, .int .i64 0, .int .i64 0, .int .u64 0, .int .u64 0, .int .i64 0, .int .i64 0, .int .u64 0, .int .u64 0] 93))
    clear hb1 x0 x1 x2 x3
    go_wp2
    go_ret2
    exact ⟨_, rfl, Row.nil _ _ _ _ _, B1.out⟩
  | true =>
    rw [ok, if_pos rfl] at LR
    have i : imgB (dvN ws ps es qs) (dvD ws ps es qs) = true := by rw [dv_img]; exact ok
    have O1 := hideIt (used_ok i 1 24 (by decide)).2
    have O2 := hideIt (used_ok i 2 32 (by decide)).2
    have M1 : Hid (setM (usedOf (mapped (dvN ws ps es qs)) 1) < 18446744073709551616) := setM_lt (fun a ha => by have := O1.out a ha; omega)
    have M2 : Hid (setM (usedOf (mapped (dvN ws ps es qs)) 2) < 18446744073709551616) := setM_lt (fun a ha => by have := O2.out a ha; omega)
    have H1 : Hid (∀ a : Int, 0 ≤ a → (setM (usedOf (mapped (dvN ws ps es qs)) 1)).testBit a.toNat = hasB (usedOf (mapped (dvN ws ps es qs)) 1) a) := fun a h0 => by rw [setM_bit (fun b hb => (O1.out b hb).1), Int.toNat_of_nonneg h0]
    have H2 : Hid (∀ a : Int, 0 ≤ a → (setM (usedOf (mapped (dvN ws ps es qs)) 2)).testBit a.toNat = hasB (usedOf (mapped (dvN ws ps es qs)) 2) a) := fun a h0 => by rw [setM_bit (fun b hb => (O2.out b hb).1), Int.toNat_of_nonneg h0]
    have LY2 := hideIt (fun w1 hb => LY.out w1 hb ok)
    clear ok i O1 O2 LN LY
    generalize (usedOf (mapped (dvN ws ps es qs)) 1) = V1 at *
    generalize (usedOf (mapped (dvN ws ps es qs)) 2) = V2 at *
    generalize othM 24 (setM V1) = g1 at *
    generalize othM 32 (setM V2) = g2 at *
    generalize dvN ws ps es qs = dn at *
    generalize dvD ws ps es qs = dd at *
    have MS : Hid (∀ w1, Below w.heap.size w w1 → Calls Tryz.prog 50 #[.slice aM l.length cM, .func (.func 51) #[] #[]] w1 fun e w' => e = .returned (.bool (misB l)) ∧ Below w1.heap.size w1 w') := LE.out
    cases mb : misB l with
    | false =>
      rw [mb] at MS
      rw [mb, if_neg (by decide)] at LR
      obtain rfl := LR.out
      clear LR mb LE
      go_enter Tryz.func22, Tryz.ntmps22
      go_wp2_with fail
      refine (LY2.out _ BW.out).mono ?_
      rintro e w1 ⟨a1, c1, a2, c2, rfl, -, hb1⟩
      obtain ⟨w2, hw2⟩ : ∃ w2, w2 = w1.alloc (.cells #[.slice a1 dn.length c1, .slice a2 dd.length c2, .int .i64 V1.length, .int .i64 24, .int .u64 (setM V1), .int .u64 g1, .int .i64 V2.length, .int .i64 32, .int .u64 (setM V2), .int .u64 g2] 93) := ⟨_, rfl⟩
      have B2 : Hid (Below w.heap.size w w2) := by rw [hw2]; exact (below_trans BW.out hb1 BW.out.size).alloc (Nat.le_trans BW.out.size hb1.size) _
      clear hb1 x0 x1 x2 x3
      go_upto_region 6 with fail
      rw [← hw2]
      clear hw2
      go_wp2_with fail
      refine (MS.out _ B2.out).mono ?_
      rintro e w3 ⟨rfl, hb3⟩
      have B3 := hideIt (below_trans B2.out hb3 B2.out.size)
      clear hb3
      go_wp2
      go_ret2
      exact ⟨_, rfl, Row.nil _ _ _ _ _, B3.out⟩
    | true =>
    rw [mb] at MS
    rw [mb, if_pos rfl] at LR
    have GO := hideIt (misB_true mb)
    clear mb LE
    go_enter Tryz.func22, Tryz.ntmps22
    go_wp2_with fail
    refine (LY2.out _ BW.out).mono ?_
    rintro e w1 ⟨a1, c1, a2, c2, rfl, -, hb1⟩
    obtain ⟨w2, hw2⟩ : ∃ w2, w2 = w1.alloc (.cells #[.slice a1 dn.length c1, .slice a2 dd.length c2, .int .i64 V1.length, .int .i64 24, .int .u64 (setM V1), .int .u64 g1, .int .i64 V2.length, .int .i64 32, .int .u64 (setM V2), .int .u64 g2] 93) := ⟨_, rfl⟩
    have I2 : Hid (w2.heap[w1.heap.size]? = some (.cells #[.slice a1 dn.length c1, .slice a2 dd.length c2, .int .i64 V1.length, .int .i64 24, .int .u64 (setM V1), .int .u64 g1, .int .i64 V2.length, .int .i64 32, .int .u64 (setM V2), .int .u64 g2] 93 (0, 0))) := by rw [hw2]; exact at_new rfl
    have B2 : Hid (Below w.heap.size w w2) := by rw [hw2]; exact (below_trans BW.out hb1 BW.out.size).alloc (Nat.le_trans BW.out.size hb1.size) _
    have hz2 : w1.heap.size < w2.heap.size := by rw [hw2]; simp
    clear hb1 x0 x1 x2 x3
    go_upto_region 6 with fail
    rw [← hw2]
    clear hw2
    go_wp2_with fail
    refine (MS.out _ B2.out).mono ?_
    rintro e w4 ⟨rfl, hb4⟩
    have B4 := hideIt (below_trans B2.out hb4 B2.out.size)
    have hz4 : w.heap.size ≤ w4.heap.size := B4.out.size
    have hz24 : w2.heap.size ≤ w4.heap.size := hb4.size
    have I4 := hideIt ((hb4.block _ hz2).trans I2.out)
    have AK : Hid (∀ w', Below w4.heap.size w4 w' → w'.cell? ⟨w1.heap.size, 4, none⟩ = some (.int .u64 (setM V1)) ∧ w'.cell? ⟨w1.heap.size, 8, none⟩ = some (.int .u64 (setM V2))) := fun w' hb => by
      obtain ⟨⟨-, -, -, -, q4, -, -, -, q8, -⟩, -⟩ := tenU ((hb.block _ (by omega)).trans I4.out)
      exact ⟨q4, q8⟩
    clear hb4 MS LY2 I2 I4
    go_wp2
    go_loopg [8, 10, 11, 12, 13, 14, 31] l.length (fun g vO _ _ _ _ _ iv wr => ∃ k : Nat, k + g = l.length ∧ iv = .int .i64 k ∧ Hid (InI w4 wr vO (lsL V1 V2 (l.take k))))
    case atStart => exact ⟨0, by omega, rfl, ⟨World.ownsRow_nil _ _ _ _, Below.refl _ _⟩⟩
    case round =>
      obtain ⟨k, hk, rfl, I⟩ := hrel
      have hzr : w4.heap.size ≤ wr.heap.size := I.out.z
      by_cases hlt : k < l.length
      · obtain ⟨b, o, rfl, hbl, hcell⟩ := HM.out (by omega)
        obtain ⟨e0, e1, e2⟩ := hcell k hlt
        have Bwr := hideIt (below_trans B4.out I.out.b hz4)
        have d0 := (Bwr.out.cell (p := ⟨b, o + k * 3, none⟩) hbl).trans e0
        have d1 := (Bwr.out.cell (p := ⟨b, o + k * 3 + 1, none⟩) hbl).trans e1
        have d2 := (Bwr.out.cell (p := ⟨b, o + k * 3 + 2, none⟩) hbl).trans e2
        have k0 : (0 : Int) ≤ (k : Int) := by omega
        have k1 : (k : Int) < (l.length : Int) := by omega
        have LT := hideIt (lsL_take (V1 := V1) (V2 := V2) hlt)
        have LNN := lsL_len V1 V2 (l.take k)
        rw [List.length_take] at LNN
        have WW := ls_ways V1 V2 l[k] (GO.out k hlt)
        clear hcell e0 e1 e2
        obtain ⟨W5, hW5⟩ : ∃ W5, W5 = wr.alloc (.cells #[.int .i64 l[k].kind, .int .i64 l[k].at_, .int .i64 l[k].val] 110) := ⟨_, rfl⟩
        have B5 : Hid (Below wr.heap.size wr W5) := by rw [hW5]; exact (Below.refl _ _).alloc (Nat.le_refl _) _
        have X5 : Hid (W5.heap[wr.heap.size]? = some (.cells #[.int .i64 l[k].kind, .int .i64 l[k].at_, .int .i64 l[k].val] 110 (0, 0))) := by rw [hW5]; exact at_new rfl
        have z5 : wr.heap.size < W5.heap.size := by rw [hW5]; simp
        obtain ⟨f0, f1, f2⟩ := triU X5.out
        generalize hmm : l[k] = m at *
        obtain ⟨mk, ma, mv⟩ := m
        simp only at *
        clear hmm
        have A0 : 0 ≤ ma ∧ ma < 336 := by omega
        have LP := hideIt (fun w1 => pageStored_any mk ma mv w1 A0.1 A0.2)
        have LQ := hideIt (fun w1 => sectorWritten_any mk ma mv w1)
        go_upto_region 12 with fail
        rw [← hW5]
        clear hW5 d0 d1 d2
        rcases WW with ⟨rfl, u1, u2, u3, u4⟩ | ⟨rfl, u1, u2, u3, u4⟩ | ⟨rfl, u1, u2, u4⟩ | ⟨rfl, u1, u2, u3, u4⟩ | ⟨rfl, u1, u2, u3, u4⟩ | ⟨u5, u6, u1, u2, u4⟩
        all_goals
          replace LT := hideIt (LT.out.trans (congrArg (lsL V1 V2 (l.take k) ++ ·) u4))
          clear u4
        · have LH := hideIt (fun w1 => has_p (setM V1) (ma - 312) w1 M1.out (by omega) (by omega))
          rw [H1.out (ma - 312) (by omega), u3] at LH
          rw [decide_eq_true (show (1 : Int) = 1 ∧ 312 ≤ ma from ⟨rfl, u1⟩)] at LP
          go_wp2_with fail
          refine (LP.out _).mono ?_
          rintro e w6 ⟨rfl, hb6⟩
          have B6 := hideIt (below_trans B5.out hb6 B5.out.size)
          have I6 := hideIt (I.out.below B6.out)
          have hz6 : W5.heap.size ≤ w6.heap.size := hb6.size
          have X6 := hideIt ((hb6.block _ z5).trans X5.out)
          clear f0 f1 f2
          obtain ⟨f0, f1, f2⟩ := triU X6.out
          obtain ⟨q4, q8⟩ := AK.out _ I6.out.b
          clear hb6 I
          go_wp2_with fail
          refine (LH.out _).mono ?_
          rintro e w7 ⟨rfl, hb7⟩
          have I7 := hideIt (I6.out.below hb7)
          have hz7 : w6.heap.size ≤ w7.heap.size := hb7.size
          have X7 := hideIt ((hb7.block _ (by omega)).trans X6.out)
          clear f0 f1 f2 q4 q8
          obtain ⟨f0, f1, f2⟩ := triU X7.out
          obtain ⟨q4, q8⟩ := AK.out _ I7.out.b
          clear hb7
          have JB : Hid (InI w4 (w7.alloc (.cells #[.int .i64 (ma - 312)] 3)) u8 (lsL V1 V2 (l.take k))) := I7.out.below ((Below.refl _ _).alloc (Nat.le_refl _) _)
          have RB := hideIt (rd_int w7 (ma - 312))
          have hzb := JB.out.z
          go_wp2_with (at_builtin; refine wpList_append_rd _ rfl (.tmp 49) (.tmp 51) 22 rfl w4.heap.size 3 (.int .i64 0) 1 8 Tryz.underlying22 info3 rfl (by decide) _ _ _ rfl JB.out.l _ 1 _ rfl RB.out (one_int _) (by simp [maxLen]; omega) (by omega) (by omega) ?_)
          intro vN wN hownN hgrN
          have G := hideIt (JB.out.grow (ma - 312) hownN hgrN)
          rw [← LT.out] at G
          have hzN := G.out.z
          have XN := hideIt ((triU (at_old X7.out (o := .cells #[.int .i64 (ma - 312)] 3))))
          have n0 := (hgrN.cell_far ⟨wr.heap.size, 0, none⟩ (by simp; omega) (Ne.symm (own_type JB.out.l (at_old X7.out) (by decide)))).trans (triU (at_old X7.out)).1
          have n1 := (hgrN.cell_far ⟨wr.heap.size, 1, none⟩ (by simp; omega) (Ne.symm (own_type JB.out.l (at_old X7.out) (by decide)))).trans (triU (at_old X7.out)).2.1
          have n2 := (hgrN.cell_far ⟨wr.heap.size, 2, none⟩ (by simp; omega) (Ne.symm (own_type JB.out.l (at_old X7.out) (by decide)))).trans (triU (at_old X7.out)).2.2
          clear hownN hgrN JB RB f0 f1 f2 XN
          go_wp2_with fail
          refine (LQ.out _).mono ?_
          rintro e w8 ⟨rfl, hb8⟩
          have I8 := hideIt (G.out.below hb8)
          clear hb8
          go_wp2
          go_roundg (gk - 1)
          case measure => omega
          case rel => exact ⟨k + 1, by omega, by go_num, I8.out⟩
        · have LH := hideIt (fun w1 => has_p (setM V1) (ma - 312) w1 M1.out (by omega) (by omega))
          rw [H1.out (ma - 312) (by omega), u3] at LH
          rw [decide_eq_true (show (1 : Int) = 1 ∧ 312 ≤ ma from ⟨rfl, u1⟩)] at LP
          go_wp2_with fail
          refine (LP.out _).mono ?_
          rintro e w6 ⟨rfl, hb6⟩
          have B6 := hideIt (below_trans B5.out hb6 B5.out.size)
          have I6 := hideIt (I.out.below B6.out)
          have hz6 : W5.heap.size ≤ w6.heap.size := hb6.size
          have X6 := hideIt ((hb6.block _ z5).trans X5.out)
          clear f0 f1 f2
          obtain ⟨f0, f1, f2⟩ := triU X6.out
          obtain ⟨q4, q8⟩ := AK.out _ I6.out.b
          clear hb6 I
          go_wp2_with fail
          refine (LH.out _).mono ?_
          rintro e w7 ⟨rfl, hb7⟩
          have I7 := hideIt (I6.out.below hb7)
          have hz7 : w6.heap.size ≤ w7.heap.size := hb7.size
          have X7 := hideIt ((hb7.block _ (by omega)).trans X6.out)
          clear f0 f1 f2 q4 q8
          obtain ⟨f0, f1, f2⟩ := triU X7.out
          obtain ⟨q4, q8⟩ := AK.out _ I7.out.b
          clear hb7
          go_wp2_with fail
          refine (LQ.out _).mono ?_
          rintro e w8 ⟨rfl, hb8⟩
          have I8 := hideIt (I7.out.below hb8)
          clear hb8
          go_wp2
          go_roundg (gk - 1)
          case measure => omega
          case rel => exact ⟨k + 1, by omega, by go_num, (by rw [LT.out, List.append_nil]; exact I8.out)⟩
        · rw [decide_eq_false (show ¬ ((1 : Int) = 1 ∧ 312 ≤ ma) from fun h => by omega)] at LP
          go_wp2_with fail
          refine (LP.out _).mono ?_
          rintro e w6 ⟨rfl, hb6⟩
          have B6 := hideIt (below_trans B5.out hb6 B5.out.size)
          have I6 := hideIt (I.out.below B6.out)
          have hz6 : W5.heap.size ≤ w6.heap.size := hb6.size
          have X6 := hideIt ((hb6.block _ z5).trans X5.out)
          clear f0 f1 f2
          obtain ⟨f0, f1, f2⟩ := triU X6.out
          obtain ⟨q4, q8⟩ := AK.out _ I6.out.b
          clear hb6 I
          go_wp2_with fail
          refine (LQ.out _).mono ?_
          rintro e w8 ⟨rfl, hb8⟩
          have I8 := hideIt (I6.out.below hb8)
          clear hb8
          go_wp2
          go_roundg (gk - 1)
          case measure => omega
          case rel => exact ⟨k + 1, by omega, by go_num, (by rw [LT.out, List.append_nil]; exact I8.out)⟩
        · have LH := hideIt (fun w1 => has_s (setM V2) ma w1 M2.out (by omega) (by omega))
          rw [H2.out ma (by omega), u3] at LH
          rw [decide_eq_false (show ¬ ((4 : Int) = 1 ∧ 312 ≤ ma) from fun h => by omega)] at LP
          go_wp2_with fail
          refine (LP.out _).mono ?_
          rintro e w6 ⟨rfl, hb6⟩
          have B6 := hideIt (below_trans B5.out hb6 B5.out.size)
          have I6 := hideIt (I.out.below B6.out)
          have hz6 : W5.heap.size ≤ w6.heap.size := hb6.size
          have X6 := hideIt ((hb6.block _ z5).trans X5.out)
          clear f0 f1 f2
          obtain ⟨f0, f1, f2⟩ := triU X6.out
          obtain ⟨q4, q8⟩ := AK.out _ I6.out.b
          clear hb6 I
          go_wp2_with fail
          refine (LQ.out _).mono ?_
          rintro e w7 ⟨rfl, hb7⟩
          have I7 := hideIt (I6.out.below hb7)
          have hz7 : w6.heap.size ≤ w7.heap.size := hb7.size
          clear q4 q8
          obtain ⟨q4, q8⟩ := AK.out _ I7.out.b
          clear hb7
          go_wp2_with fail
          refine (LH.out _).mono ?_
          rintro e w8 ⟨rfl, hb8⟩
          have I8 := hideIt (I7.out.below hb8)
          clear hb8
          have JB : Hid (InI w4 (w8.alloc (.cells #[.int .i64 (100 + ma)] 3)) u8 (lsL V1 V2 (l.take k))) := I8.out.below ((Below.refl _ _).alloc (Nat.le_refl _) _)
          have RB := hideIt (rd_int w8 (100 + ma))
          have hzb := JB.out.z
          go_wp2_with (at_builtin; refine wpList_append_rd _ rfl (.tmp 67) (.tmp 70) 22 rfl w4.heap.size 3 (.int .i64 0) 1 8 Tryz.underlying22 info3 rfl (by decide) _ _ _ rfl JB.out.l _ 1 _ rfl RB.out (one_int _) (by simp [maxLen]; omega) (by omega) (by omega) ?_)
          intro vN wN hownN hgrN
          have G := hideIt (JB.out.grow (100 + ma) hownN hgrN)
          rw [← LT.out] at G
          have hzN := G.out.z
          clear hownN hgrN JB RB
          go_wp2
          go_roundg (gk - 1)
          case measure => omega
          case rel => exact ⟨k + 1, by omega, by go_num, G.out⟩
        · have LH := hideIt (fun w1 => has_s (setM V2) ma w1 M2.out (by omega) (by omega))
          rw [H2.out ma (by omega), u3] at LH
          rw [decide_eq_false (show ¬ ((4 : Int) = 1 ∧ 312 ≤ ma) from fun h => by omega)] at LP
          go_wp2_with fail
          refine (LP.out _).mono ?_
          rintro e w6 ⟨rfl, hb6⟩
          have B6 := hideIt (below_trans B5.out hb6 B5.out.size)
          have I6 := hideIt (I.out.below B6.out)
          have hz6 : W5.heap.size ≤ w6.heap.size := hb6.size
          have X6 := hideIt ((hb6.block _ z5).trans X5.out)
          clear f0 f1 f2
          obtain ⟨f0, f1, f2⟩ := triU X6.out
          obtain ⟨q4, q8⟩ := AK.out _ I6.out.b
          clear hb6 I
          go_wp2_with fail
          refine (LQ.out _).mono ?_
          rintro e w7 ⟨rfl, hb7⟩
          have I7 := hideIt (I6.out.below hb7)
          have hz7 : w6.heap.size ≤ w7.heap.size := hb7.size
          clear q4 q8
          obtain ⟨q4, q8⟩ := AK.out _ I7.out.b
          clear hb7
          go_wp2_with fail
          refine (LH.out _).mono ?_
          rintro e w8 ⟨rfl, hb8⟩
          have I8 := hideIt (I7.out.below hb8)
          clear hb8
          go_wp2
          go_roundg (gk - 1)
          case measure => omega
          case rel => exact ⟨k + 1, by omega, by go_num, (by rw [LT.out, List.append_nil]; exact I8.out)⟩
        · have u5' : ¬ mk = 1 := by rw [beq_eq_false_iff_ne] at u5; exact u5
          rw [decide_eq_false (show ¬ (mk = 1 ∧ 312 ≤ ma) from fun h => by exact u5' h.1)] at LP
          go_wp2_with fail
          refine (LP.out _).mono ?_
          rintro e w6 ⟨rfl, hb6⟩
          have B6 := hideIt (below_trans B5.out hb6 B5.out.size)
          have I6 := hideIt (I.out.below B6.out)
          have hz6 : W5.heap.size ≤ w6.heap.size := hb6.size
          have X6 := hideIt ((hb6.block _ z5).trans X5.out)
          clear f0 f1 f2
          obtain ⟨f0, f1, f2⟩ := triU X6.out
          obtain ⟨q4, q8⟩ := AK.out _ I6.out.b
          clear hb6 I
          go_wp2_with fail
          refine (LQ.out _).mono ?_
          rintro e w8 ⟨rfl, hb8⟩
          have I8 := hideIt (I6.out.below hb8)
          clear hb8
          go_wp2
          go_roundg (gk - 1)
          case measure => omega
          case rel => exact ⟨k + 1, by omega, by go_num, (by rw [LT.out, List.append_nil]; exact I8.out)⟩
      · obtain rfl : k = l.length := by omega
        rw [List.take_length] at I
        obtain ⟨-, aL, cL, hvL, -⟩ := (own_block I.out.l).rd
        subst hvL
        have E9 := hideIt (below_trans B4.out I.out.b hz4)
        have R9 := hideIt ((own_block I.out.l).wide hz4 (Nat.le_refl _))
        go_wp2
        go_ret2
        obtain rfl := LR.out
        exact ⟨_, rfl, R9.out, E9.out⟩
end Go.Proofs.YtbjjdkemappelaaGreatDoor

namespace Go.Proofs.YtbjjdkemappelaaGreatDoor
open Go.ChangeShapes Go.WideShapes Go.ChangeAt Go.RowKit Go.Joins

theorem cellsMic : Tryz.prog.cellsOf 113 = 3 := by kernel_rfl

section

variable {H : Type} {enc : TypeId × Value → H} {W : World} {sp : Nat → Bool} {held : Bool} {fuel : Nat} {v : Value} {y : DataW H × List MemPlace}

set_option maxRecDepth 100000 in
theorem open_RdM (h : DataW.trod enc Tryz.prog W 0 sp held fuel 50 [v] = some y) : ∃ ps : List Mi, RdM W v ps ∧ ps.length ≤ maxLen ∧ ∀ p ∈ ps, (Lit.int .i64 p.at_).wf = true ∧ (Lit.int .i64 p.val).wf = true := by
  rcases Deep.open_slice Tryz.underlying50 h with ⟨hcs, _⟩ | ⟨a, len, cap, m, n, D, Pl, hcs, _, hl, hm, hmm, _, hel⟩
  · simp only [List.cons.injEq, and_true] at hcs
    subst hcs
    exact ⟨[], ⟨rfl, none, 0, rfl, ⟨Nat.le_refl _, fun _ => rfl⟩, fun h => absurd h (by simp)⟩, by simp, fun p hp => by simp at hp⟩
  · simp only [List.cons.injEq, and_true] at hcs
    subst hcs
    have hlm : len ≤ m := by rw [hmm]; split <;> omega
    have one : ∀ i, i < len → ∃ s : Mi, (W.cell? ((a.add (i * 3)).add 0) = some (.int .i64 s.kind) ∧ W.cell? ((a.add (i * 3)).add 1) = some (.int .i64 s.at_) ∧ W.cell? ((a.add (i * 3)).add 2) = some (.int .i64 s.val)) ∧ (Lit.int .i64 s.at_).wf = true ∧ (Lit.int .i64 s.val).wf = true := by
      intro i hi
      obtain ⟨cs, hcs, ht⟩ := hel i (by omega)
      rw [cellsMic] at hcs
      obtain ⟨_, hlen, hc⟩ := World.cells?_some hcs
      obtain ⟨y0, y1, y2, n', _, _, t0, t1, t2⟩ := Deep.trod_struct3 Tryz.underlying113 ht
      obtain ⟨z0, e0, _, w0⟩ := DataW.trod_int Tryz.underlying3 t0
      obtain ⟨z1, e1, _, w1⟩ := DataW.trod_int Tryz.underlying3 t1
      obtain ⟨z2, e2, _, w2⟩ := DataW.trod_int Tryz.underlying3 t2
      simp only [cells3] at e0 e1 e2
      match cs, hlen with
      | [c0, c1, c2], _ =>
        simp at e0 e1 e2
        subst e0 e1 e2
        exact ⟨⟨z0, z1, z2⟩, ⟨by simpa using hc 0 (by omega), by simpa using hc 1 (by omega), by simpa using hc 2 (by omega)⟩, w1, w2⟩
    obtain ⟨ps, hpl, hps⟩ := exists_list len one
    refine ⟨ps, ⟨mis_len ps, some a, cap, by rw [hpl], ⟨by rw [hpl]; exact hl, fun e => by cases e⟩, fun hn => ?_⟩, by rw [hpl]; omega, fun p hp => ?_⟩
    · obtain ⟨b, off, spot⟩ := a
      have hc := (hps 0 hn).1.1
      have hspot : spot = none := by simpa [Addr.add] using World.cell?_spot hc
      subst hspot
      refine ⟨b, off, rfl, World.block_lt_of_cell? W _ (by simpa [Addr.add] using hc), fun j hj => ?_⟩
      have hk : j / 3 < ps.length := by omega
      obtain ⟨⟨q0, q1, q2⟩, _⟩ := hps (j / 3) hk
      simp only [Addr.add_lit, Nat.add_zero] at q0 q1 q2
      have hj3 : j = j / 3 * 3 + j % 3 := by omega
      rcases (show j % 3 = 0 ∨ j % 3 = 1 ∨ j % 3 = 2 from by omega) with r | r | r
      · rw [hj3, r, Nat.add_zero, q0, mis_at0 ps _ hk]
      · rw [hj3, r, ← Nat.add_assoc, q1, mis_at1 ps _ hk]
      · rw [hj3, r, ← Nat.add_assoc, q2, mis_at2 ps _ hk]
    · obtain ⟨i, hi, rfl⟩ := List.getElem_of_mem hp
      exact (hps i hi).2

end

end Go.Proofs.YtbjjdkemappelaaGreatDoor

namespace Go.Proofs.YtbjjdkemappelaaGreatDoor
open Go.ChangeShapes Go.WideShapes Go.ChangeAt Go.RowKit

theorem cells3' : Tryz.prog.cellsOf 3 = 1 := by kernel_rfl
theorem cellsPair : Tryz.prog.cellsOf 146 = 2 := by kernel_rfl
theorem cellsSB : Tryz.prog.cellsOf 147 = 12 := by kernel_rfl
set_option maxRecDepth 100000 in
theorem cells_pair {H : Type} {enc : TypeId × Value → H} {w : World} {base : Nat} {sp : Nat → Bool} {held : Bool} {fuel : Nat} {cs : List Value} {p : List MemPlace} {a b : Int}
    (h : DataW.trod enc Tryz.prog w base sp held fuel 146 cs = some (.agg [.lit (.int .i64 a), .lit (.int .i64 b)], p)) : cs = [.int .i64 a, .int .i64 b] := by
  obtain ⟨y0, y1, n, hx, hl, t0, t1⟩ := trod_struct2 Tryz.underlying146 h
  obtain ⟨z0, e0, hy0, _⟩ := DataW.trod_int Tryz.underlying3 t0
  obtain ⟨z1, e1, hy1, _⟩ := DataW.trod_int Tryz.underlying3 t1
  rw [cellsPair] at hl
  subst hy0 hy1
  simp only [cells3'] at e0 e1
  match cs, hl with
  | [c0, c1], _ =>
    simp at e0 e1 hx
    subst e0 e1
    rw [hx.1.1, hx.1.2]
set_option maxRecDepth 100000 in
theorem pairs_all {zs : List (Int × Int)} {cs : List Value} (hz : zs.length = 6) (hl : cs.length = 12) (chunk : ∀ i, i < 6 → ∃ z, zs[i]? = some z ∧ (cs.drop (i * 2)).take 2 = [.int .i64 z.1, .int .i64 z.2]) : cs = zs.flatMap fun z => [.int .i64 z.1, .int .i64 z.2] := by
  match zs, hz, cs, hl, chunk with
  | [z0, z1, z2, z3, z4, z5], _, [c0, c1, c2, c3, c4, c5, c6, c7, c8, c9, c10, c11], _, chunk =>
    have k0 := chunk 0 (by omega)
    have k1 := chunk 1 (by omega)
    have k2 := chunk 2 (by omega)
    have k3 := chunk 3 (by omega)
    have k4 := chunk 4 (by omega)
    have k5 := chunk 5 (by omega)
    simp at k0 k1 k2 k3 k4 k5
    simp [k0, k1, k2, k3, k4, k5]
theorem cells_sb {H : Type} {enc : TypeId × Value → H} {w : World} {base : Nat} {sp : Nat → Bool} {held : Bool} {fuel : Nat} {cs : List Value} {p : List MemPlace} {zs : List (Int × Int)} (hz : zs.length = 6)
    (h : DataW.trod enc Tryz.prog w base sp held fuel 147 cs = some (.agg (zs.map fun z => .agg [.lit (.int .i64 z.1), .lit (.int .i64 z.2)]), p)) : cs = zs.flatMap fun z => [.int .i64 z.1, .int .i64 z.2] := by
  cases fuel with
  | zero => simp [DataW.trod] at h
  | succ fuel =>
    simp only [DataW.trod, Tryz.underlying147, cellsPair, cellsSB] at h
    split at h
    · rename_i hl
      obtain ⟨xs, hm, hx⟩ := Option.map_eq_some_iff.1 h
      have hxs : xs.map (·.1) = zs.map fun z => (DataW.agg [.lit (.int .i64 z.1), .lit (.int .i64 z.2)] : DataW H) := by
        have := congrArg Prod.fst hx
        simpa using this
      refine pairs_all hz hl (fun i hi => ?_)
      obtain ⟨b, hb, hf⟩ := Lib.mapM_at hm i i (by simp [hi])
      have h2 : (xs.map (·.1))[i]? = some b.1 := by simp [hb]
      rw [hxs, List.getElem?_map, List.getElem?_eq_getElem (by omega)] at h2
      have h3 := Option.some.inj h2
      obtain ⟨b1, b2⟩ := b
      simp only at h3
      subst h3
      exact ⟨_, List.getElem?_eq_getElem (by omega), cells_pair hf⟩
    · cases h
end Go.Proofs.YtbjjdkemappelaaGreatDoor

