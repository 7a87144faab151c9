/- Several texts laid together: Mem, IntS, SecT, PiP, StoreT, PmT, BlkT, Dev, AdL, AdM. -/
import Derived.Test.YtbjjdkemappelaaGreatDoorAdG
import Derived.Test.YtbjjdkemappelaaGreatDoorZBW
import Derived.WalkKit
import Derived.WalkSpells
import Derived.WalkSmall
import Derived.Deep.OwnRows
import Derived.Deep.QuietTactic
import Derived.BigQuiet
import Derived.Deep.RegionWith
import Derived.Laws.IdiomStrings
import Derived.Laws.BytesArg
import Derived.Deep.RegionHeld3
import Derived.Laws.OwnMore
import Derived.Laws.CopyRow
import Derived.Laws.CopyOwn
import Derived.Deep.RegionLaw
import Derived.Laws.Cover3
import Derived.Laws.BitsAll
import Derived.Laws.Bits128
import Derived.Deep.DeepCutAuto
import Derived.Laws.BitsAllLaws
import Derived.Deep.LoopGhost
import Derived.Laws.Shifts
import Derived.ProofKit
import Derived.OpenShut
import Derived.ShutString
import Derived.ChangeOld
import Derived.Lib.SmallJoins
import Derived.Deep.Slices
import Derived.Deep.Strs
import Derived.Maps.Views
import Derived.Lib.SplitLaws
import Derived.Lib.IndexBytes
import Derived.Lib.Strings
import Derived.Sort.Walk0
import Derived.Laws.Cover1
import Derived.BigRegion
import Derived.Lib.LaidTab
import Derived.Deep.DeepHandedRow
namespace Go.Proofs.YtbjjdkemappelaaGreatDoor
open Go.RowKit

theorem Outside.of_below {lo hi : Nat} {w w' : World} (h : Below w.heap.size w w') : Outside lo hi w w' := ⟨h.os, h.tape, h.output, h.size, fun k hk _ => h.block k hk⟩
theorem Outside.mono {lo hi lo' hi' : Nat} {w w' : World} (h : Outside lo hi w w') (h1 : lo' ≤ lo) (h2 : hi ≤ hi') : Outside lo' hi' w w' :=
  ⟨h.os, h.tape, h.output, h.size, fun k hk ho => h.block k hk (by omega)⟩
theorem grown_trans {a b c : World} {row : Option Nat} (h : a.grownBy b row) (k : b.grownBy c row) : a.grownBy c row :=
  ⟨k.os.trans h.os, k.tape.trans h.tape, k.output.trans h.output, Nat.le_trans h.size k.size, fun i hi' ho => (k.block i (Nat.lt_of_lt_of_le hi' h.size) ho).trans (h.block i hi' ho)⟩
theorem grown_setCell {w w' : World} {row : Option Nat} (h : w.grownBy w' row) {a : Addr} (ha : row = some a.block) (u : Value) : w.grownBy (w'.setCell a u) row :=
  grown_trans h ⟨rfl, rfl, rfl, by simp [World.setCell], fun k _ ho => Below.heap_setCell _ _ _ _ (fun e => ho (by rw [ha, e]))⟩
theorem Row.grown_outside {w0 w w' : World} {e : TypeId} {size lo hi : Nat} {v : Value} {n : Nat} {xs : List Value} (h : Row w0 e size lo hi v n xs) (hg : w.grownBy w' v.ownBlock) : Outside lo hi w w' :=
  ⟨hg.os, hg.tape, hg.output, hg.size, fun k hk ho => hg.block k hk (fun e => by have h1 := (h.1.lt k e.symm).1; have h2 := h.2 k e.symm; omega)⟩
end Go.Proofs.YtbjjdkemappelaaGreatDoor

namespace Go.Proofs.YtbjjdkemappelaaGreatDoor
open Go.RowKit

theorem ints_set_at {zs : List Value} {j : Nat} {u : Value} {i : Nat} (hi : i < zs.length) : (zs.set j u)[i]? = if i = j then some u else zs[i]? := by
  by_cases e : i = j
  · subst e; simp [hi]
  · simp [e, show ¬ j = i from fun h => e h.symm]

set_option maxHeartbeats 1000000 in
/-- A slice of the call's own is marked: number by number, and nothing else is written. -/
theorem markIntS_any {e0 : TypeId} (v : Value) (n : Nat) (xs : List Value) (k0 : Int) (lo hi : Nat) (w : World) (h : Row w e0 1 lo hi v n xs) (hx : ∀ u ∈ xs, ∃ z, u = .int .i64 z) (hn : n ≤ 2147483648) (h0 : 0 ≤ k0) (h1 : k0 ≤ 1099511627776) :
    Calls Tryz.prog 17 #[v, .int .i64 k0] w fun e w' => e = .returned (.int .i64 (k0 + n)) ∧ Row w' e0 1 lo hi v n (ints (marks k0 n)) ∧ w.grownBy w' v.ownBlock ∧ w'.heap.size = w.heap.size := by
  obtain ⟨hlen, ao, cap, rfl, hcap, hc⟩ := h.rd
  go_enter Tryz.func17, Tryz.ntmps17
  go_wp2
  go_loopw [1, 5] (fun c i wr => ∃ k : Nat, k ≤ n ∧ i = .int .i64 k ∧ c = .int .i64 (k0 + k) ∧ (∃ ys : List Value, Row wr e0 1 lo hi (.slice ao n cap) n ys ∧ (∀ u ∈ ys, ∃ z, u = .int .i64 z) ∧ ∀ j, j < k → ys[j]? = some (.int .i64 (k0 + j))) ∧ w.grownBy wr (Value.slice ao n cap).ownBlock ∧ wr.heap.size = w.heap.size) (fun _ i _ => n - (intOf i).toNat)
  case atStart => exact ⟨0, by omega, rfl, by simp, ⟨xs, h, hx, fun j hj => absurd hj (by omega)⟩, World.grownBy.refl _ _, rfl⟩
  case round =>
    obtain ⟨k, hk, rfl, rfl, ⟨ys, hrow, hys, hd⟩, hout, hz⟩ := hrel
    clear h hx hc hlen
    by_cases hlt : k < n
    · obtain ⟨hlen, ao', cap', e', _, hc⟩ := hrow.rd
      cases e'
      obtain ⟨b, o, rfl, hbl, hcell⟩ := hc (by omega)
      have hb1 : lo ≤ b ∧ b < hi := ⟨(hrow.1.lt b rfl).1, hrow.2 b rfl⟩
      have ho : o = 0 := by
        rcases hrow.1.2 with ⟨e, _⟩ | ⟨g, cp, cur, e, _⟩
        · cases e
        · cases e; rfl
      subst ho
      have hyl : k < ys.length := by omega
      obtain ⟨z, hz0⟩ := hys ys[k] (List.getElem_mem hyl)
      have hck : wr.cell? ⟨b, k, none⟩ = some (.int .i64 z) := by
        have := hcell k (by omega)
        rw [Nat.zero_add, List.getElem?_eq_getElem hyl, hz0] at this
        exact this
      have hfr : wr.frozen? ⟨b, k, none⟩ = false := hrow.1.frozenAt k
      have RH := hideIt (World.ownsRow.stored hrow.1 k (.int .i64 (k0 + k))).1
      have OH := hideIt (grown_setCell hout (a := ⟨b, k, none⟩) rfl (.int .i64 (k0 + k)))
      have YH := hideIt hys
      have DH := hideIt hd
      have LH := hideIt hrow.2
      clear hrow hys hd hcell hc hz0
      go_wp2
      go_roundw
      case rel =>
        refine ⟨k + 1, by omega, by go_num, by go_num, ⟨ys.set k (.int .i64 (k0 + k)), ⟨RH.out, LH.out⟩, fun u hu => ?_, fun j hj => ?_⟩, OH.out, by simp [hz]⟩
        · rcases List.mem_or_eq_of_mem_set hu with hu | rfl
          · exact YH.out u hu
          · exact ⟨_, rfl⟩
        · rw [ints_set_at (by omega)]
          split
          · rename_i e; rw [e]
          · exact DH.out j (by omega)
      case measure => simp [intOf]; omega
    · have e : k = n := by omega
      subst e
      have RH := hideIt hrow
      have DH := hideIt hd
      clear hrow hys hd
      go_wp2
      go_ret
      have e : ys = ints (marks k0 k) := by
        apply List.ext_getElem?
        intro j
        by_cases hj : j < k
        · rw [DH.out j hj, ints_at _ j (by rw [marks_len]; exact hj), marks_at]
        · have hyl := RH.out.1.1
          rw [List.getElem?_eq_none (by omega), List.getElem?_eq_none (by rw [ints_len, marks_len]; omega)]
      exact ⟨rfl, e ▸ RH.out, hout, hz⟩

theorem RdI_marks {w : World} {lo hi : Nat} {v : Value} {k : Int} {n : Nat} (h : Row w 3 1 lo hi v n (ints (marks k n))) : RdI w v (marks k n) := by
  unfold RdI
  rw [marks_len]
  exact h.rd
end Go.Proofs.YtbjjdkemappelaaGreatDoor

namespace Go.Proofs.YtbjjdkemappelaaGreatDoor
open Go.RowKit

/-- The i-th of the marks from k on. -/
def markE (k : Int) (i : Nat) : Se := ⟨k + 2 * (i : Int), k + 2 * (i : Int) + 1⟩
def marksE (k : Int) (n : Nat) : List Se := (List.range n).map (markE k)
theorem marksE_len (k : Int) (n : Nat) : (marksE k n).length = n := by simp [marksE]
theorem marksE_at (k : Int) (n i : Nat) (h : i < (marksE k n).length) : (marksE k n)[i] = markE k i := by simp [marksE]

/-- Cells of writes: numbers. -/
def IsSes (xs : List Value) (n : Nat) : Prop := ∀ k, k < n → ∃ a b, xs[k * 2]? = some (.int .i64 a) ∧ xs[k * 2 + 1]? = some (.int .i64 b)
theorem isSes (ps : List Se) : IsSes (ses ps) ps.length := fun k hk => ⟨_, _, ses_at0 ps k hk, ses_at1 ps k hk⟩
theorem IsSes.put2 {ys : List Value} {n : Nat} (h : IsSes ys n) (hl : ys.length = n * 2) (k : Nat) (a b : Int) : IsSes (put2 ys k (.int .i64 a) (.int .i64 b)) n := by
  intro j hj
  rw [put2_at (by omega), put2_at (by omega)]
  by_cases e : j = k
  · subst e
    exact ⟨a, b, by simp, by simp⟩
  · obtain ⟨x, y, h0, h1⟩ := h j hj
    refine ⟨x, y, ?_, ?_⟩
    · rw [if_neg (by omega), if_neg (by omega)]; exact h0
    · rw [if_neg (by omega), if_neg (by omega)]; exact h1

set_option maxHeartbeats 2000000 in
/-- A slice of writes of the call's own is marked, and nothing else is written. -/
theorem markSectorS_any (v : Value) (n : Nat) (xs : List Value) (k0 : Int) (lo hi : Nat) (w : World) (h : Row w 162 2 lo hi v n xs) (hx : IsSes xs n) (hn : n ≤ 2147483648) (h0 : 0 ≤ k0) (h1 : k0 ≤ 1099511627776) :
    Calls Tryz.prog 83 #[v, .int .i64 k0] w fun e w' => e = .returned (.int .i64 (k0 + 2 * n)) ∧ Row w' 162 2 lo hi v n (ses (marksE k0 n)) ∧ w.grownBy w' v.ownBlock ∧ w'.heap.size = w.heap.size := by
  obtain ⟨hlen, ao, cap, rfl, hcap, hc⟩ := h.rd
  go_enter Tryz.func83, Tryz.ntmps83
  go_wp2
  go_loopw [1, 5] (fun c i wr => ∃ k : Nat, k ≤ n ∧ i = .int .i64 k ∧ c = .int .i64 (k0 + 2 * k) ∧ (∃ ys : List Value, Row wr 162 2 lo hi (.slice ao n cap) n ys ∧ IsSes ys n ∧ ∀ j, j < k * 2 → ys[j]? = (ses (marksE k0 n))[j]?) ∧ w.grownBy wr (Value.slice ao n cap).ownBlock ∧ wr.heap.size = w.heap.size) (fun _ i _ => n - (intOf i).toNat)
  case atStart => exact ⟨0, by omega, rfl, by simp, ⟨xs, h, hx, fun j hj => absurd hj (by omega)⟩, World.grownBy.refl _ _, rfl⟩
  case round =>
    obtain ⟨k, hk, rfl, rfl, ⟨ys, hrow, hys, hd⟩, hout, hz⟩ := hrel
    clear h hx hc hlen
    by_cases hlt : k < n
    · obtain ⟨hlen, ao', cap', e', _, hc⟩ := hrow.rd
      cases e'
      obtain ⟨b, o, rfl, hbl, _⟩ := hc (by omega)
      obtain ⟨rfl, hb1, hb2, _, hfr, hcl⟩ := hrow.at
      obtain ⟨x, y, q0, q1⟩ := hys k hlt
      have f0 := hfr (k * 2)
      have f1 := hfr (k * 2 + 1)
      have e0 := (hcl (k * 2) (by omega)).trans q0
      have e1 := (hcl (k * 2 + 1) (by omega)).trans q1
      have PH := hideIt (hrow.put2 k (.int .i64 (k0 + 2 * k)) (.int .i64 (k0 + 2 * k + 1)))
      have OH := hideIt (grown_setCell (grown_setCell hout (a := ⟨b, k * 2, none⟩) rfl (.int .i64 (k0 + 2 * k))) (a := ⟨b, k * 2 + 1, none⟩) rfl (.int .i64 (k0 + 2 * k + 1)))
      have IH := hideIt (hys.put2 hlen k (k0 + 2 * k) (k0 + 2 * k + 1))
      have DH : Hid (∀ j, j < (k + 1) * 2 → (put2 ys k (.int .i64 (k0 + 2 * k)) (.int .i64 (k0 + 2 * k + 1)))[j]? = (ses (marksE k0 n))[j]?) := by
        have hk' : k < (marksE k0 n).length := by rw [marksE_len]; exact hlt
        have := put2_step (ps := marksE k0 n) hk' (by rw [marksE_len]; exact hlen) hd
        rw [marksE_at] at this
        exact this
      clear hrow hys hd hc hfr hcl q0 q1
      go_wp2
      go_roundw
      case rel => exact ⟨k + 1, by omega, by go_num, by go_num, ⟨_, PH.out, IH.out, DH.out⟩, OH.out, by simp [hz]⟩
      case measure => simp [intOf]; omega
    · have e : k = n := by omega
      subst e
      have hl := hrow.len
      have RH := hideIt hrow
      have DH := hideIt hd
      clear hrow hys hd
      go_wp2
      go_ret
      have e := ses_all (ps := marksE k0 k) (by rw [marksE_len]; exact hl) (by rw [marksE_len]; exact DH.out)
      exact ⟨rfl, e ▸ RH.out, hout, hz⟩

end Go.Proofs.YtbjjdkemappelaaGreatDoor

namespace Go.Proofs.YtbjjdkemappelaaGreatDoor
open Go.RowKit

theorem row_none3 (w : World) : Row (w.alloc (.cells #[] 3)) 3 1 w.heap.size (w.alloc (.cells #[] 3)).heap.size (.slice (some ⟨w.heap.size, 0, none⟩) 0 0) 0 [] :=
  own_block (World.ownsRow_lit w #[] 0 (Nat.le_refl _) (by simp [maxLen]) (by simp))

end Go.Proofs.YtbjjdkemappelaaGreatDoor

namespace Go.Proofs.YtbjjdkemappelaaGreatDoor
open Go.RowKit

/-- The i-th of the marks from k on. -/
def markS (k : Int) (i : Nat) : St := ⟨k + 3 * (i : Int), k + 3 * (i : Int) + 1, (k + 3 * (i : Int) + 1 + 1) % 3 == 0⟩
def marksS (k : Int) (n : Nat) : List St := (List.range n).map (markS k)
theorem marksS_len (k : Int) (n : Nat) : (marksS k n).length = n := by simp [marksS]
theorem marksS_at (k : Int) (n i : Nat) (h : i < (marksS k n).length) : (marksS k n)[i] = markS k i := by simp [marksS]

/-- Cells of stores: numbers and bools, in their turn. -/
def IsSts (xs : List Value) (n : Nat) : Prop := ∀ k, k < n → ∃ a b c, xs[k * 3]? = some (.int .i64 a) ∧ xs[k * 3 + 1]? = some (.int .i64 b) ∧ xs[k * 3 + 2]? = some (.bool c)
theorem isSts (ps : List St) : IsSts (sts ps) ps.length := fun k hk => ⟨_, _, _, sts_at0 ps k hk, sts_at1 ps k hk, sts_at2 ps k hk⟩
theorem IsSts.put3 {ys : List Value} {n : Nat} (h : IsSts ys n) (hl : ys.length = n * 3) (k : Nat) (a b : Int) (c : Bool) : IsSts (put3 ys k (.int .i64 a) (.int .i64 b) (.bool c)) n := by
  intro j hj
  rw [put3_at (by omega), put3_at (by omega), put3_at (by omega)]
  by_cases e : j = k
  · subst e
    exact ⟨a, b, c, by simp, by simp, by simp⟩
  · obtain ⟨x, y, z, h0, h1, h2⟩ := h j hj
    refine ⟨x, y, z, ?_, ?_, ?_⟩
    · rw [if_neg (by omega), if_neg (by omega), if_neg (by omega)]; exact h0
    · rw [if_neg (by omega), if_neg (by omega), if_neg (by omega)]; exact h1
    · rw [if_neg (by omega), if_neg (by omega), if_neg (by omega)]; exact h2

set_option maxHeartbeats 2000000 in
/-- A slice of stores of the call's own is marked, and nothing else is written. -/
theorem markStoreS_any (v : Value) (n : Nat) (xs : List Value) (k0 : Int) (lo hi : Nat) (w : World) (h : Row w 158 3 lo hi v n xs) (hx : IsSts xs n) (hn : n ≤ 2147483648) (h0 : 0 ≤ k0) (h1 : k0 ≤ 1099511627776) :
    Calls Tryz.prog 82 #[v, .int .i64 k0] w fun e w' => e = .returned (.int .i64 (k0 + 3 * n)) ∧ Row w' 158 3 lo hi v n (sts (marksS k0 n)) ∧ w.grownBy w' v.ownBlock ∧ w'.heap.size = w.heap.size := by
  obtain ⟨hlen, ao, cap, rfl, hcap, hc⟩ := h.rd
  go_enter Tryz.func82, Tryz.ntmps82
  go_wp2
  go_loopw [1, 5] (fun c i wr => ∃ k : Nat, k ≤ n ∧ i = .int .i64 k ∧ c = .int .i64 (k0 + 3 * k) ∧ (∃ ys : List Value, Row wr 158 3 lo hi (.slice ao n cap) n ys ∧ IsSts ys n ∧ ∀ j, j < k * 3 → ys[j]? = (sts (marksS k0 n))[j]?) ∧ w.grownBy wr (Value.slice ao n cap).ownBlock ∧ wr.heap.size = w.heap.size) (fun _ i _ => n - (intOf i).toNat)
  case atStart => exact ⟨0, by omega, rfl, by simp, ⟨xs, h, hx, fun j hj => absurd hj (by omega)⟩, World.grownBy.refl _ _, rfl⟩
  case round =>
    obtain ⟨k, hk, rfl, rfl, ⟨ys, hrow, hys, hd⟩, hout, hz⟩ := hrel
    clear h hx hc hlen
    by_cases hlt : k < n
    · obtain ⟨hlen, ao', cap', e', _, hc⟩ := hrow.rd
      cases e'
      obtain ⟨b, o, rfl, hbl, _⟩ := hc (by omega)
      obtain ⟨rfl, hb1, hb2, _, hfr, hcl⟩ := hrow.at
      obtain ⟨x, y, z, q0, q1, q2⟩ := hys k hlt
      have f0 := hfr (k * 3)
      have f1 := hfr (k * 3 + 1)
      have f2 := hfr (k * 3 + 2)
      have e0 := (hcl (k * 3) (by omega)).trans q0
      have e1 := (hcl (k * 3 + 1) (by omega)).trans q1
      have e2 := (hcl (k * 3 + 2) (by omega)).trans q2
      have PH := hideIt (hrow.put3 k (.int .i64 (k0 + 3 * k)) (.int .i64 (k0 + 3 * k + 1)) (.bool ((k0 + 3 * k + 1 + 1) % 3 == 0)))
      have OH := hideIt (grown_setCell (grown_setCell (grown_setCell hout (a := ⟨b, k * 3, none⟩) rfl (.int .i64 (k0 + 3 * k))) (a := ⟨b, k * 3 + 1, none⟩) rfl (.int .i64 (k0 + 3 * k + 1))) (a := ⟨b, k * 3 + 2, none⟩) rfl (.bool ((k0 + 3 * k + 1 + 1) % 3 == 0)))
      have IH := hideIt (hys.put3 hlen k (k0 + 3 * k) (k0 + 3 * k + 1) ((k0 + 3 * k + 1 + 1) % 3 == 0))
      have DH : Hid (∀ j, j < (k + 1) * 3 → (put3 ys k (.int .i64 (k0 + 3 * k)) (.int .i64 (k0 + 3 * k + 1)) (.bool ((k0 + 3 * k + 1 + 1) % 3 == 0)))[j]? = (sts (marksS k0 n))[j]?) := by
        have hk' : k < (marksS k0 n).length := by rw [marksS_len]; exact hlt
        have := put3_step (ps := marksS k0 n) hk' (by rw [marksS_len]; exact hlen) hd
        rw [marksS_at] at this
        exact this
      clear hrow hys hd hc hfr hcl q0 q1 q2
      go_wp2
      go_roundw
      case rel => exact ⟨k + 1, by omega, by go_num, by go_num, ⟨_, PH.out, IH.out, DH.out⟩, OH.out, by simp [hz]⟩
      case measure => simp [intOf]; omega
    · have e : k = n := by omega
      subst e
      have hl := hrow.len
      have RH := hideIt hrow
      have DH := hideIt hd
      clear hrow hys hd
      go_wp2
      go_ret
      have e := sts_all (ps := marksS k0 k) (by rw [marksS_len]; exact hl) (by rw [marksS_len]; exact DH.out)
      exact ⟨rfl, e ▸ RH.out, hout, hz⟩

end Go.Proofs.YtbjjdkemappelaaGreatDoor

namespace Go.Proofs.YtbjjdkemappelaaGreatDoor
open Go.RowKit

set_option maxHeartbeats 2000000 in
theorem markPm_any (v : Value) (ws : List Int) (ps : List St) (k0 : Int) (lo hi : Nat) (w : World) (h : RowPm w lo hi v ws ps) (hi1 : hi ≤ w.heap.size) (hw : ws.length ≤ 2147483648) (hp : ps.length ≤ 2147483648) (h0 : 0 ≤ k0) (h1 : k0 ≤ 1073741824) :
    Calls Tryz.prog 46 #[v, .int .i64 k0] w fun e w' => e = .returned (.int .i64 (k0 + ws.length + 3 * ps.length)) ∧ RowPm w' lo hi v (marks k0 ws.length) (marksS (k0 + ws.length) ps.length) ∧ Outside lo hi w w' := by
  obtain ⟨vW, vP, rfl, h1, h2⟩ := h
  obtain ⟨_, aW, cW, rfl, _⟩ := h1.rd
  obtain ⟨_, aP, cP, rfl, _⟩ := h2.rd
  have H1 := hideIt h1
  have H2 := hideIt h2
  clear h1 h2
  go_enter Tryz.func46, Tryz.ntmps46
  go_wp2_with fail
  have hb0 : Below w.heap.size w (w.alloc (.cells #[.slice aW ws.length cW, .slice aP ps.length cP] 36)) := (Below.refl _ _).alloc (Nat.le_refl _) _
  refine (markIntS_any _ _ (ints ws) k0 lo hi _ (H1.out.below hb0 hi1) (fun u hu => by simp only [ints, List.mem_map] at hu; obtain ⟨z, _, rfl⟩ := hu; exact ⟨z, rfl⟩) hw h0 (by omega)).mono ?_
  rintro e w1 ⟨rfl, hr1, hg1, hz1⟩
  simp only [World.size_alloc] at hz1
  have ho1 := Row.grown_outside H1.out hg1
  have V0 := (ho1.block w.heap.size (by simp) (.inr hi1)).trans (at_new rfl)
  obtain ⟨x1, x2, _, _⟩ := two_cells V0
  have O1 := hideIt ((Outside.of_below (lo := lo) (hi := hi) hb0).trans ho1)
  have R1 := hideIt hr1
  have R2 := hideIt ((H2.out.below hb0 hi1).apart (H1.out.below hb0 hi1) (by decide) hg1)
  clear hr1 hg1 ho1 V0
  go_wp2_with fail
  refine (markStoreS_any _ _ (sts ps) (k0 + ws.length) lo hi _ R2.out (isSts ps) hp (by omega) (by omega)).mono ?_
  rintro e w2 ⟨rfl, hr2, hg2, hz2⟩
  have O2 := hideIt (O1.out.trans (Row.grown_outside R2.out hg2))
  have R3 := hideIt (R1.out.apart R2.out (by decide) hg2)
  have R4 := hideIt hr2
  clear hr2 hg2
  go_wp2
  go_ret
  refine ⟨rfl, ⟨_, _, rfl, ?_, ?_⟩, O2.out⟩
  · rw [marks_len]; exact R3.out
  · rw [marksS_len]; exact R4.out

end Go.Proofs.YtbjjdkemappelaaGreatDoor

namespace Go.Proofs.YtbjjdkemappelaaGreatDoor
open Go.RowKit

set_option maxHeartbeats 2000000 in
theorem markBlk_any (v : Value) (ws : List Int) (ps : List Se) (k0 : Int) (lo hi : Nat) (w : World) (h : RowBlk w lo hi v ws ps) (hi1 : hi ≤ w.heap.size) (hw : ws.length ≤ 2147483648) (hp : ps.length ≤ 2147483648) (h0 : 0 ≤ k0) (h1 : k0 ≤ 1073741824) :
    Calls Tryz.prog 47 #[v, .int .i64 k0] w fun e w' => e = .returned (.int .i64 (k0 + ws.length + 2 * ps.length)) ∧ RowBlk w' lo hi v (marks k0 ws.length) (marksE (k0 + ws.length) ps.length) ∧ Outside lo hi w w' := by
  obtain ⟨vW, vP, rfl, h1, h2⟩ := h
  obtain ⟨_, aW, cW, rfl, _⟩ := h1.rd
  obtain ⟨_, aP, cP, rfl, _⟩ := h2.rd
  obtain ⟨e1, he1, h1⟩ := h1
  have HE := hideIt he1
  have H1 := hideIt h1
  have H2 := hideIt h2
  clear h1 h2 he1
  go_enter Tryz.func47, Tryz.ntmps47
  go_wp2_with fail
  have hb0 : Below w.heap.size w (w.alloc (.cells #[.slice aW ws.length cW, .slice aP ps.length cP] 39)) := (Below.refl _ _).alloc (Nat.le_refl _) _
  refine (markIntS_any _ _ (ints ws) k0 lo hi _ (H1.out.below hb0 hi1) (fun u hu => by simp only [ints, List.mem_map] at hu; obtain ⟨z, _, rfl⟩ := hu; exact ⟨z, rfl⟩) hw h0 (by omega)).mono ?_
  rintro e w1 ⟨rfl, hr1, hg1, hz1⟩
  simp only [World.size_alloc] at hz1
  have ho1 := Row.grown_outside H1.out hg1
  have V0 := (ho1.block w.heap.size (by simp) (.inr hi1)).trans (at_new rfl)
  obtain ⟨x1, x2, _, _⟩ := two_cells V0
  have O1 := hideIt ((Outside.of_below (lo := lo) (hi := hi) hb0).trans ho1)
  have R1 := hideIt hr1
  have R2 := hideIt ((H2.out.below hb0 hi1).apart (H1.out.below hb0 hi1) (Ne.symm HE.out) hg1)
  clear hr1 hg1 ho1 V0
  go_wp2_with fail
  refine (markSectorS_any _ _ (ses ps) (k0 + ws.length) lo hi _ R2.out (isSes ps) hp (by omega) (by omega)).mono ?_
  rintro e w2 ⟨rfl, hr2, hg2, hz2⟩
  have O2 := hideIt (O1.out.trans (Row.grown_outside R2.out hg2))
  have R3 := hideIt (R1.out.apart R2.out HE.out hg2)
  have R4 := hideIt hr2
  clear hr2 hg2
  go_wp2
  go_ret
  refine ⟨rfl, ⟨_, _, rfl, ?_, ?_⟩, O2.out⟩
  · rw [marks_len]; exact ⟨e1, HE.out, R3.out⟩
  · rw [marksE_len]; exact R4.out

end Go.Proofs.YtbjjdkemappelaaGreatDoor

namespace Go.Proofs.YtbjjdkemappelaaGreatDoor
open Go.RowKit

set_option maxHeartbeats 2000000 in
theorem markDevices_any (v : Value) (ws : List Int) (ps : List St) (es : List Int) (qs : List Se) (k0 : Int) (lo hi : Nat) (w : World) (h : RowDev w lo hi v ws ps es qs) (hi1 : hi ≤ w.heap.size) (hw : ws.length ≤ 16777216) (hp : ps.length ≤ 16777216) (he : es.length ≤ 16777216) (hq : qs.length ≤ 16777216) (h0 : 0 ≤ k0) (h1 : k0 ≤ 67108864) :
    Calls Tryz.prog 16 #[v, .int .i64 k0] w fun e w' => e = .returned (.int .i64 (k0 + ws.length + 3 * ps.length + es.length + 2 * qs.length)) ∧ RowDev w' lo hi v (marks k0 ws.length) (marksS (k0 + ws.length) ps.length) (marks (k0 + ws.length + 3 * ps.length) es.length) (marksE (k0 + ws.length + 3 * ps.length + es.length) qs.length) ∧ Outside lo hi w w' := by
  obtain ⟨aW, cW, aP, cP, aS, cS, aQ, cQ, e0, -, -⟩ := h.rd.form
  subst e0
  obtain ⟨_, _, _, _, l1, u1, l2, u2, e0, r1, r2, c1, c2, c3, c4, c5⟩ := h
  cases e0
  have R1 := hideIt r1
  have R2 := hideIt r2
  clear r1 r2
  have hb0 : Below w.heap.size w (w.alloc (.cells #[.slice aW ws.length cW, .slice aP ps.length cP, .slice aS es.length cS, .slice aQ qs.length cQ] 41)) := (Below.refl _ _).alloc (Nat.le_refl _) _
  go_enter Tryz.func16, Tryz.ntmps16
  go_wp2_with fail
  refine (markPm_any _ ws ps k0 l1 u1 _ (R1.out.below hb0 (by omega)) (by simp only [World.size_alloc]; omega) (by omega) (by omega) h0 (by omega)).mono ?_
  rintro e w1 ⟨rfl, hr1, ho1⟩
  have hz1 : w.heap.size + 1 ≤ w1.heap.size := by have := ho1.size; simp only [World.size_alloc] at this; exact this
  obtain ⟨x0, x1, x2, x3, -, -, -, -⟩ := four_cells ((ho1.block w.heap.size (by simp) (.inr (by omega))).trans (at_new rfl))
  have O1 := hideIt ((Outside.of_below (lo := lo) (hi := hi) hb0).trans (ho1.mono c1 c2))
  have Q1 := hideIt hr1
  have Q2 := hideIt ((R2.out.below hb0 (by omega)).outside ho1 (by omega) (by simp only [World.size_alloc]; omega))
  clear hr1 ho1 hb0
  go_wp2_with fail
  refine (markBlk_any _ es qs (k0 + ws.length + 3 * ps.length) l2 u2 _ Q2.out (by omega) (by omega) (by omega) (by omega) (by omega)).mono ?_
  rintro e w2 ⟨rfl, hr2, ho2⟩
  have O2 := hideIt (O1.out.trans (ho2.mono c3 c4))
  have Q3 := hideIt (Q1.out.outside ho2 (by omega) (by omega))
  have Q4 := hideIt hr2
  clear hr2 ho2
  go_wp2
  go_ret
  exact ⟨rfl, ⟨_, _, _, _, _, _, _, _, rfl, Q3.out, Q4.out, c1, c2, c3, c4, c5⟩, O2.out⟩

end Go.Proofs.YtbjjdkemappelaaGreatDoor

namespace Go.Proofs.YtbjjdkemappelaaGreatDoor
open Go.RowKit

/-- How many entries are of a tier. -/
def ctT (t : Int) (l : List Int) : Nat := l.countP fun e => e % 4 == t
def tcT (t : Int) (ns : List Ino) : Nat := (ns.map fun x => ctT t (x.map.take x.size.toNat)).sum
def tiL (ns : List Ino) : List Int := [(tcT 1 ns : Int), (tcT 2 ns : Int), (tcT 0 ns : Int)]
def tiR (ws : List Int) (ps : List St) (es : List Int) (qs : List Se) : List Int × Int := if dvB ws ps es qs = true then (tiL (dvN ws ps es qs), 0) else ([], 1)
theorem tiR_len (ws : List Int) (ps : List St) (es : List Int) (qs : List Se) : (tiR ws ps es qs).1.length ≤ 1048576 := by
  unfold tiR tiL
  split <;> simp
theorem ctT_take {t : Int} {l : List Int} {k : Nat} (h : k < l.length) : ctT t (l.take (k + 1)) = ctT t (l.take k) + if l.getD k 0 % 4 = t then 1 else 0 := by
  unfold ctT
  rw [List.take_succ_eq_append_getElem h, List.countP_append, List.countP_singleton, List.getD_eq_getElem?_getD, List.getElem?_eq_getElem h, Option.getD_some]
  by_cases c : l[k] % 4 = t
  · simp [c]
  · simp [c]
theorem tcT_take {t : Int} {ns : List Ino} {k : Nat} (h : k < ns.length) : tcT t (ns.take (k + 1)) = tcT t (ns.take k) + ctT t (ns[k].map.take ns[k].size.toNat) := by
  unfold tcT
  rw [List.take_succ_eq_append_getElem h, List.map_append, List.sum_append]
  simp
theorem ctT_le (t : Int) (l : List Int) : ctT t l ≤ l.length := List.countP_le_length
theorem tcT_le (t : Int) : ∀ ns : List Ino, tcT t ns ≤ 8 * ns.length
  | [] => by unfold tcT; simp
  | x :: ns => by
    have a := tcT_le t ns
    have b := ctT_le t (x.map.take x.size.toNat)
    rw [List.length_take, Ino.len] at b
    unfold tcT at *
    rw [List.map_cons, List.sum_cons, List.length_cons]
    omega
/-- What is told of an inode that is right. -/
theorem ino_told {x : Ino} (h : inoB x = true) : (0 ≤ x.size ∧ x.size ≤ 8) ∧ (∀ z ∈ x.map, tieB z = true) ∧ ∀ z ∈ x.map.drop x.size.toNat, z = 0 := by
  refine ⟨?_, (ino_ties h).1, ?_⟩
  · unfold inoB at h
    simp only [Bool.and_eq_true, decide_eq_true_eq] at h
    exact h.2.1
  · intro z hz
    unfold inoB at h
    simp only [Bool.and_eq_true, decide_eq_true_eq] at h
    obtain ⟨_, s, _, d, _⟩ := h
    obtain ⟨j, hj, rfl⟩ := List.getElem_of_mem hz
    rw [List.length_drop, Ino.len] at hj
    have := mapB_to d (x.size.toNat + j) (by omega)
    rw [List.getElem_drop]
    rw [List.getD_eq_getElem?_getD, List.getElem?_eq_getElem (by rw [Ino.len]; omega), Option.getD_some] at this
    unfold entB at this
    simp only [Bool.and_eq_true, Bool.or_eq_true, decide_eq_true_eq, beq_iff_eq] at this
    rcases this.2 with q | q <;> first | exact q | omega
theorem tie_zero {z : Int} (h : tieB z = true) : (z % 4 = 0 ↔ z = 0) ∧ (z % 4 = 0 ∨ z % 4 = 1 ∨ z % 4 = 2) := by
  unfold tieB at h
  rw [Bool.and_eq_true, decide_eq_true_eq] at h
  have := addrB_true h.2
  omega
theorem ino_used {x : Ino} (h : inoB x = true) (t : Int) (ht : t ≠ 0) : (usedOf (somes x.map) t).length = ctT t (x.map.take x.size.toNat) := by
  obtain ⟨-, tb, z⟩ := ino_told h
  unfold usedOf somes ctT
  rw [List.length_map, ← List.countP_eq_length_filter, List.countP_filter]
  have e : x.map.countP (fun a => a % 4 == t && a != 0) = x.map.countP (fun a => a % 4 == t) := List.countP_congr (fun a ha => by
    have := tie_zero (tb a ha)
    simp only [Bool.and_eq_true, beq_iff_eq, bne_iff_ne]
    constructor
    · exact fun q => q.1
    · exact fun q => ⟨q, fun c => ht (by omega)⟩)
  rw [e]
  have s : x.map.countP (fun a => a % 4 == t) = (x.map.take x.size.toNat).countP (fun a => a % 4 == t) + (x.map.drop x.size.toNat).countP (fun a => a % 4 == t) := by
    rw [← List.countP_append, List.take_append_drop]
  have zz : (x.map.drop x.size.toNat).countP (fun a => a % 4 == t) = 0 := List.countP_eq_zero.2 (fun a ha => by rw [z a ha]; simp; omega)
  rw [s, zz, Nat.add_zero]
theorem used_tc : ∀ (ns : List Ino), (∀ x ∈ ns, inoB x = true) → ∀ t : Int, t ≠ 0 → (usedOf (mapped ns) t).length = tcT t ns
  | [], _, _, _ => rfl
  | x :: ns, h, t, ht => by
    have a := used_tc ns (fun y hy => h y (List.mem_cons_of_mem _ hy)) t ht
    have b := ino_used (h x List.mem_cons_self) t ht
    have e : usedOf (mapped (x :: ns)) t = usedOf (somes x.map) t ++ usedOf (mapped ns) t := by
      unfold usedOf mapped
      rw [List.flatMap_cons, List.filter_append, List.map_append]
    rw [e, List.length_append, a, b]
    unfold tcT
    rw [List.map_cons, List.sum_cons]
theorem img_inos {ns : List Ino} {ds : List Den} (h : imgB ns ds = true) : ∀ k (h : k < ns.length), inoB ns[k] = true := (of_decide_eq_true (img_parts h).2.2.2 : ∀ k (h : k < ns.length), inoB ns[k] = true)
theorem row_three (w : World) (x y z : Int) : Row (w.alloc (.cells #[.int .i64 x, .int .i64 y, .int .i64 z] 3)) 3 1 w.heap.size (w.alloc (.cells #[.int .i64 x, .int .i64 y, .int .i64 z] 3)).heap.size (.slice (some ⟨w.heap.size, 0, none⟩) 3 3) 3 (ints [x, y, z]) :=
  own_block (World.ownsRow_lit w #[.int .i64 x, .int .i64 y, .int .i64 z] 3 (Nat.le_refl _) (by simp [maxLen]) (by simp))

set_option maxRecDepth 100000 in
set_option maxHeartbeats 8000000 in
theorem specTiersOf_any (v : Value) (ws : List Int) (ps : List St) (es : List Int) (qs : List Se) (w : World) (h : RdDev w v ws ps es qs) (hw : ws.length ≤ 1048576) (hp : ps.length ≤ 1048576) (he : es.length ≤ 1048576) (hq : qs.length ≤ 1048576) :
    Calls Tryz.prog 13 #[v] w fun e w' => ∃ v', e = .returned (.tuple #[v', .int .i64 (tiR ws ps es qs).2]) ∧ Row w' 3 1 w.heap.size w'.heap.size v' (tiR ws ps es qs).1.length (ints (tiR ws ps es qs).1) ∧ Below w.heap.size w w' := by
  have RE := hideIt (fun w1 : World => And.intro (row_none3 w1) ((Below.refl w1.heap.size w1).alloc (Nat.le_refl _) (.cells #[] 3)))
  have LA := hideIt (fun w1 (hb : Below w.heap.size w w1) => l08Image_any v ws ps es qs w1 (h.below hb) hw hp he hq)
  obtain ⟨aW, cW, aP, cP, aS, cS, aQ, cQ, rfl, -, -⟩ := h.form
  have BW : Hid (Below w.heap.size w (w.alloc (.cells #[.slice aW ws.length cW, .slice aP ps.length cP, .slice aS es.length cS, .slice aQ qs.length cQ] 41))) := (Below.refl _ _).alloc (Nat.le_refl _) _
  obtain ⟨x0, x1, x2, x3, -, -, -, -⟩ := fourU (at_new (w := w) (o := .cells #[.slice aW ws.length cW, .slice aP ps.length cP, .slice aS es.length cS, .slice aQ qs.length cQ] 41) rfl)
  clear h
  cases ok : dvB ws ps es qs with
  | false =>
    rw [show tiR ws ps es qs = ([], 1) by unfold tiR; rw [ok]; rfl]
    rw [ok] at LA
    clear ok
    generalize dvN ws ps es qs = dn at *
    generalize dvD ws ps es qs = dd at *
    go_enter Tryz.func13, Tryz.ntmps13
    go_wp2_with fail
    refine (LA.out _ BW.out).mono ?_
    rintro e w1 ⟨v1, rfl, ⟨vI, vD, rfl, hI, hD⟩, hb1⟩
    obtain ⟨-, a1, c1, hv1, -⟩ := hI.rd
    obtain ⟨-, a2, c2, hv2, -⟩ := hD.rd
    subst hv1
    subst hv2
    have B1 := hideIt ((below_trans BW.out hb1 BW.out.size).alloc (Nat.le_trans BW.out.size hb1.size) (.cells #[.slice a1 dn.length c1, .slice a2 dd.length c2] 76))
    clear hI hD hb1 x0 x1 x2 x3
    have R0 := (RE.out (w1.alloc (.cells #[.slice a1 dn.length c1, .slice a2 dd.length c2] 76))).1.wide B1.out.size (Nat.le_refl _)
    rw [show (w1.alloc (.cells #[.slice a1 dn.length c1, .slice a2 dd.length c2] 76)).heap.size = w1.heap.size + 1 from World.size_alloc _ _] at R0
    have R0 := hideIt R0
    go_wp2
    go_ret2
    exact ⟨_, rfl, R0.out, below_trans B1.out (RE.out _).2 B1.out.size⟩
  | true =>
    rw [show tiR ws ps es qs = (tiL (dvN ws ps es qs), 0) by unfold tiR; rw [ok]; rfl]
    have i : imgB (dvN ws ps es qs) (dvD ws ps es qs) = true := by rw [dv_img]; exact ok
    have nl := (img_parts i).1
    have nl' : (dvN ws ps es qs).length ≤ 16 := by omega
    have OKN := hideIt (img_inos i)
    have LU := hideIt (fun t v1 w1 h => l05Used_any v1 (dvN ws ps es qs) (dvD ws ps es qs) t w1 h (by omega) (img_small i))
    have UT := hideIt (used_tc (dvN ws ps es qs) (fun x hx => by obtain ⟨k, hk, rfl⟩ := List.getElem_of_mem hx; exact img_inos i k hk))
    have L1 := hideIt (LU.out 1)
    have L2 := hideIt (LU.out 2)
    rw [UT.out 1 (by decide)] at L1
    rw [UT.out 2 (by decide)] at L2
    rw [ok] at LA
    clear ok i nl LU UT RE
    generalize (usedOf (mapped (dvN ws ps es qs)) 1) = V1 at *
    generalize (usedOf (mapped (dvN ws ps es qs)) 2) = V2 at *
    generalize dvN ws ps es qs = dn at *
    generalize dvD ws ps es qs = dd at *
    have TL1 := hideIt (tcT_le 1 dn)
    have TL2 := hideIt (tcT_le 2 dn)
    go_enter Tryz.func13, Tryz.ntmps13
    go_wp2_with fail
    refine (LA.out _ BW.out).mono ?_
    rintro e w1 ⟨v1, rfl, ⟨vI, vD, rfl, hI, hD⟩, hb1⟩
    have R1 : Hid (RowIm w1 (w.alloc (.cells #[.slice aW ws.length cW, .slice aP ps.length cP, .slice aS es.length cS, .slice aQ qs.length cQ] 41)).heap.size w1.heap.size (.agg #[vI, vD]) dn dd) := ⟨_, _, rfl, hI, hD⟩
    obtain ⟨-, a1, c1, hv1, -⟩ := hI.rd
    obtain ⟨-, a2, c2, hv2, -⟩ := hD.rd
    subst hv1
    subst hv2
    obtain ⟨w2, hw2⟩ : ∃ w2, w2 = w1.alloc (.cells #[.slice a1 dn.length c1, .slice a2 dd.length c2] 76) := ⟨_, rfl⟩
    have B2 : Hid (Below w.heap.size w w2) := by rw [hw2]; exact (below_trans BW.out hb1 BW.out.size).alloc (Nat.le_trans BW.out.size hb1.size) _
    have R2 : Hid (RdIm w2 (.agg #[.slice a1 dn.length c1, .slice a2 dd.length c2]) dn dd) := by rw [hw2]; exact R1.out.rd.below ((Below.refl _ _).alloc (Nat.le_refl _) _)
    have I2 : Hid (w2.heap[w1.heap.size]? = some (.cells #[.slice a1 dn.length c1, .slice a2 dd.length c2] 76 (0, 0))) := by rw [hw2]; exact at_new rfl
    have hz2 : w1.heap.size < w2.heap.size := by rw [hw2]; simp
    have IK : Hid (∀ w', Below w2.heap.size w2 w' → w'.cell? ⟨w1.heap.size, 0, none⟩ = some (.slice a1 dn.length c1) ∧ w'.cell? ⟨w1.heap.size, 1, none⟩ = some (.slice a2 dd.length c2)) := fun w' hb => two_keep ((hb.block _ hz2).trans I2.out)
    clear hI hD hb1 R1 x0 x1 x2 x3
    obtain ⟨y0, y1⟩ := IK.out _ (Below.refl _ _)
    obtain ⟨vW, vP, e1, h1, h2⟩ := R2.out
    cases e1
    obtain ⟨aW', cW', e2, _, hcW⟩ := h1.shape
    cases e2
    have HW := hideIt hcW
    clear h1 h2 hcW
    go_upto_region 4 with fail
    rw [← hw2]
    clear hw2
    go_wp2
    go_loopg [6, 7, 8] dn.length (fun g hv iv _ wr => ∃ i : Nat, i + g = dn.length ∧ iv = .int .i64 i ∧ hv = .int .i64 (tcT 0 (dn.take i)) ∧ w2 = wr)
    case atStart => exact ⟨0, by omega, rfl, rfl, rfl⟩
    case round =>
      obtain ⟨i, hi, rfl, rfl, rfl⟩ := hrel
      have i0 : (0 : Int) ≤ (i : Int) := by omega
      by_cases hlt : i < dn.length
      · obtain ⟨b, o, rfl, hbl, hcell⟩ := HW.out (by omega)
        have i1 : (i : Int) < (dn.length : Int) := by omega
        have TT := hideIt (tcT_take (t := 0) hlt)
        have TLI := tcT_le 0 (dn.take i)
        rw [List.length_take] at TLI
        obtain ⟨⟨s0, s1⟩, tb, -⟩ := ino_told (OKN.out i hlt)
        have TB : Hid (∀ j, j < 8 → tieB (dn[i].map.getD j 0) = true) := fun j hj => by
          rw [List.getD_eq_getElem?_getD, List.getElem?_eq_getElem (show j < dn[i].map.length from hj), Option.getD_some]
          exact tb _ (List.getElem_mem _)
        have HM : Hid (∀ j, j < 8 → w2.cell? ⟨b, o + i * 11 + 3 + j, none⟩ = some (.int .i64 (dn[i].map.getD j 0))) := fun j hj => by
          obtain ⟨a0, a1, a2, a3, a4, a5, a6, a7, a8, a9, a10⟩ := hcell i hlt
          rcases (show j = 0 ∨ j = 1 ∨ j = 2 ∨ j = 3 ∨ j = 4 ∨ j = 5 ∨ j = 6 ∨ j = 7 by omega) with rfl | rfl | rfl | rfl | rfl | rfl | rfl | rfl <;> assumption
        obtain ⟨-, hsz, -⟩ := hcell i hlt
        have CT := hideIt (fun k (hk : k < 8) => ctT_take (t := 0) (l := dn[i].map) (k := k) hk)
        have CL := hideIt (fun k => ctT_le 0 (dn[i].map.take k))
        clear hcell tb
        generalize dn[i].map = mp at *
        obtain ⟨n, hn⟩ : ∃ n : Nat, dn[i].size = (n : Int) := ⟨dn[i].size.toNat, by omega⟩
        rw [hn] at hsz s0 s1 TT
        rw [Int.toNat_natCast] at TT
        clear hn
        have n8 : n ≤ 8 := by omega
        obtain ⟨tc, htc⟩ : ∃ tc, tc = tcT 0 (dn.take i) := ⟨_, rfl⟩
        rw [← htc] at TT TLI ⊢
        clear htc
        go_wp2
        go_loopg [6, 8] n (fun gi hv kv wq => ∃ k : Nat, k + gi = n ∧ kv = .int .i64 k ∧ hv = .int .i64 ((tc + ctT 0 (mp.take k) : Nat) : Int) ∧ w2 = wq)
        case atStart => exact ⟨0, by omega, rfl, rfl, rfl⟩
        case round =>
          obtain ⟨k, hk, rfl, rfl, rfl⟩ := hrel
          have k0 : (0 : Int) ≤ (k : Int) := by omega
          have CLk := CL.out k
          rw [List.length_take] at CLk
          by_cases hlt2 : k < n
          · have k1 : (k : Int) < (n : Int) := by omega
            have k8 : (k : Int) < 8 := by omega
            have hm := HM.out k (by omega)
            have tz := (tie_zero (TB.out k (by omega))).1
            have CTk := CT.out k (by omega)
            generalize mp.getD k 0 = z at hm tz CTk
            obtain ⟨c1, hc1⟩ : ∃ c1, c1 = ctT 0 (mp.take (k + 1)) := ⟨_, rfl⟩
            rw [← hc1] at CTk
            have hc1 := hideIt hc1
            generalize ctT 0 (mp.take k) = c0 at *
            by_cases q : z = 0
            · subst q
              have CK := hideIt (show c1 = c0 + 1 by simpa using CTk)
              clear CTk tz
              go_wp2_with (go_at_call 36; refine (l01Bit_t _).mono ?_; rintro e w' ⟨rfl, rfl⟩)
              go_roundg (gk - 1)
              case measure => omega
              case rel => exact ⟨k + 1, by omega, by go_num, by rw [← hc1.out, CK.out]; exact congrArg (Value.int .i64) (by push_cast; omega), rfl⟩
            · have q' : (z == 0) = false := by rw [beq_eq_false_iff_ne]; exact q
              have CK := hideIt (show c1 = c0 by rw [CTk, if_neg (fun h => q (tz.1 h)), Nat.add_zero])
              clear CTk tz q
              go_wp2_with (go_at_call 36; refine (l01Bit_f _).mono ?_; rintro e w' ⟨rfl, rfl⟩)
              go_roundg (gk - 1)
              case measure => omega
              case rel => exact ⟨k + 1, by omega, by go_num, by rw [← hc1.out, CK.out]; exact congrArg (Value.int .i64) (by push_cast; omega), rfl⟩
          · obtain rfl : k = n := by omega
            have TN := hideIt TT.out
            go_wp2
            go_roundg (dn.length - i - 1)
            case measure => omega
            case rel => exact ⟨i + 1, by omega, by go_num, by rw [TN.out], rfl⟩
      · obtain rfl : i = dn.length := by omega
        rw [List.take_length]
        obtain ⟨t0, ht0⟩ : ∃ t : Nat, t = tcT 0 dn := ⟨_, rfl⟩
        obtain ⟨t1, ht1⟩ : ∃ t : Nat, t = tcT 1 dn := ⟨_, rfl⟩
        obtain ⟨t2, ht2⟩ : ∃ t : Nat, t = tcT 2 dn := ⟨_, rfl⟩
        have TE : Hid (tiL dn = [(t1 : Int), (t2 : Int), (t0 : Int)]) := by unfold tiL; rw [ht0, ht1, ht2]; exact rfl
        rw [← ht0]
        rw [← ht1] at L1 TL1
        rw [← ht2] at L2 TL2
        clear ht0 ht1 ht2
        have b1 := TL1.out
        have b2 := TL2.out
        have hz2' : w1.heap.size < w2.heap.size := hz2
        have SKK : Hid (∀ w', Below w2.heap.size w2 w' → w'.cell? ⟨w1.heap.size, 0, none⟩ = some (.slice a1 dn.length c1) ∧ w'.cell? ⟨w1.heap.size, 1, none⟩ = some (.slice a2 dd.length c2)) := IK.out
        have LF1 : Hid (∀ w', Below w2.heap.size w2 w' → Calls Tryz.prog 35 #[.agg #[.slice a1 dn.length c1, .slice a2 dd.length c2], .int .i64 1] w' fun e w'' => (∃ aF cF, e = .returned (.slice aF t1 cF)) ∧ Below w2.heap.size w2 w'') := fun w' hb => (L1.out _ _ (R2.out.below hb)).mono (by
          rintro e w'' ⟨v, rfl, hr, hb2⟩
          obtain ⟨-, a, c, rfl, -⟩ := hr.rd
          exact ⟨⟨a, c, rfl⟩, below_trans hb hb2 hb.size⟩)
        have LF2 : Hid (∀ w', Below w2.heap.size w2 w' → Calls Tryz.prog 35 #[.agg #[.slice a1 dn.length c1, .slice a2 dd.length c2], .int .i64 2] w' fun e w'' => (∃ aF cF, e = .returned (.slice aF t2 cF)) ∧ Below w2.heap.size w2 w'') := fun w' hb => (L2.out _ _ (R2.out.below hb)).mono (by
          rintro e w'' ⟨v, rfl, hr, hb2⟩
          obtain ⟨-, a, c, rfl, -⟩ := hr.rd
          exact ⟨⟨a, c, rfl⟩, below_trans hb hb2 hb.size⟩)
        clear L1 L2 IK I2 R2 HW OKN TL1 TL2
        go_upto_region 12 with fail
        go_region_held3 (fun w' => w'.cell? ⟨w1.heap.size, 0, none⟩ = some (.slice a1 dn.length c1) ∧ w'.cell? ⟨w1.heap.size, 1, none⟩ = some (.slice a2 dd.length c2))
          (exact SKK.out _ (by repeat (first | with_reducible exact BG.out | with_reducible exact BF.out | with_reducible exact Below.refl _ _ | with_reducible refine below_allocU ?_ _ | with_reducible refine Below.drew ?_)))
          (first
            | (go_at_call 35; with_reducible refine (LF1.out _ (by repeat (first | with_reducible exact Below.refl _ _ | with_reducible refine Below.drew ?_))).mono ?_; rintro e wf ⟨⟨aF, cF, rfl⟩, hbf⟩; have BF := hideIt hbf; clear hbf)
            | (go_at_call 35; with_reducible refine (LF2.out _ (by repeat (first | with_reducible exact BF.out | with_reducible refine Below.drew ?_))).mono ?_; rintro e wg ⟨⟨aG, cG, rfl⟩, hbg⟩; have BG := hideIt hbg; clear hbg)
            | fail)
        all_goals
          have B9 := hideIt (below_trans B2.out BG.out B2.out.size)
          have R9 := hideIt ((row_three wg t1 t2 t0).wide B9.out.size (Nat.le_refl _))
          have E9 := hideIt (B9.out.alloc B9.out.size (.cells #[.int .i64 t1, .int .i64 t2, .int .i64 t0] 3))
          go_wp2
          go_ret2
          refine ⟨_, rfl, ?_, E9.out⟩
          rw [TE.out]
          exact R9.out
end Go.Proofs.YtbjjdkemappelaaGreatDoor

namespace Go.Proofs.YtbjjdkemappelaaGreatDoor
open Go.RowKit

theorem map_cell {w : World} {b : Nat} {t : TypeId} {s : Value} {x : Ino} (h : w.heap[b]? = some (.cells #[.int .i64 x.kind, s, .int .i64 x.links, .int .i64 x.m0, .int .i64 x.m1, .int .i64 x.m2, .int .i64 x.m3, .int .i64 x.m4, .int .i64 x.m5, .int .i64 x.m6, .int .i64 x.m7] t (0, 0))) : w.cell? ⟨b, 1, none⟩ = some s ∧ ∀ k, k < 8 → w.cell? ⟨b, 3 + k, none⟩ = some (.int .i64 (x.map.getD k 0)) := by
  refine ⟨by simp [World.cell?, h], fun k hk => ?_⟩
  rcases (show k = 0 ∨ k = 1 ∨ k = 2 ∨ k = 3 ∨ k = 4 ∨ k = 5 ∨ k = 6 ∨ k = 7 by omega) with rfl | rfl | rfl | rfl | rfl | rfl | rfl | rfl <;> simp [World.cell?, h, Ino.map]
theorem triZ {w : World} {b : Nat} {t : TypeId} {x y z : Value} (h : w.heap[b]? = some (.cells #[x, y, z] t (0, 0))) : (w.cell? ⟨b, 0, none⟩ = some x ∧ w.cell? ⟨b, 1, none⟩ = some y ∧ w.cell? ⟨b, 2, none⟩ = some z) ∧ w.frozen? ⟨b, 0, none⟩ = false ∧ w.frozen? ⟨b, 1, none⟩ = false ∧ w.frozen? ⟨b, 2, none⟩ = false := by
  simp [World.cell?, World.frozen?, h]
theorem tri_s0 {w : World} {b : Nat} {t : TypeId} {x y z : Value} (h : w.heap[b]? = some (.cells #[x, y, z] t (0, 0))) (u : Value) : (w.setCell ⟨b, 0, none⟩ u).heap[b]? = some (.cells #[u, y, z] t (0, 0)) := by simp [World.setCell, Array.getElem?_modify, h]
theorem tri_s1 {w : World} {b : Nat} {t : TypeId} {x y z : Value} (h : w.heap[b]? = some (.cells #[x, y, z] t (0, 0))) (u : Value) : (w.setCell ⟨b, 1, none⟩ u).heap[b]? = some (.cells #[x, u, z] t (0, 0)) := by simp [World.setCell, Array.getElem?_modify, h]
theorem tri_s2 {w : World} {b : Nat} {t : TypeId} {x y z : Value} (h : w.heap[b]? = some (.cells #[x, y, z] t (0, 0))) (u : Value) : (w.setCell ⟨b, 2, none⟩ u).heap[b]? = some (.cells #[x, y, u] t (0, 0)) := by simp [World.setCell, Array.getElem?_modify, h]

set_option maxRecDepth 100000 in
set_option maxHeartbeats 16000000 in
theorem implTiersOf_any (v : Value) (ws : List Int) (ps : List St) (es : List Int) (qs : List Se) (w : World) (h : RdDev w v ws ps es qs) (hw : ws.length ≤ 1048576) (hp : ps.length ≤ 1048576) (he : es.length ≤ 1048576) (hq : qs.length ≤ 1048576) (hT : TS w) (hE : ED w) (hF : FD w) :
    Calls Tryz.prog 14 #[v] w fun e w' => ∃ v', e = .returned (.tuple #[v', .int .i64 (tiR ws ps es qs).2]) ∧ Row w' 3 1 w.heap.size w'.heap.size v' (tiR ws ps es qs).1.length (ints (tiR ws ps es qs).1) ∧ Below w.heap.size w w' := by
  have LN := hideIt (fun w1 (hb : Below w.heap.size w w1) o => auditOf_no v ws ps es qs w1 (h.below hb) hw hp he hq (hT.below hb) (hE.below hb) (hF.below hb) o)
  have LY := hideIt (fun w1 (hb : Below w.heap.size w w1) o => auditOf_yes v ws ps es qs w1 (h.below hb) hw hp he hq (hT.below hb) (hE.below hb) (hF.below hb) o)
  have T := hideIt hT
  obtain ⟨aW, cW, aP, cP, aS, cS, aQ, cQ, rfl, -, -⟩ := h.form
  have BW : Hid (Below w.heap.size w (w.alloc (.cells #[.slice aW ws.length cW, .slice aP ps.length cP, .slice aS es.length cS, .slice aQ qs.length cQ] 41))) := (Below.refl _ _).alloc (Nat.le_refl _) _
  obtain ⟨x0, x1, x2, x3, -, -, -, -⟩ := fourU (at_new (w := w) (o := .cells #[.slice aW ws.length cW, .slice aP ps.length cP, .slice aS es.length cS, .slice aQ qs.length cQ] 41) rfl)
  clear h hT hE hF
  cases ok : dvB ws ps es qs with
  | false =>
    rw [show tiR ws ps es qs = ([], 1) by unfold tiR; rw [ok]; rfl]
    go_enter Tryz.func14, Tryz.ntmps14
    go_wp2_with fail
    refine (LN.out _ BW.out ok).mono ?_
    rintro e w1 ⟨rfl, hb1⟩
    have B1 := hideIt ((below_trans BW.out hb1 BW.out.size).alloc (Nat.le_trans BW.out.size hb1.size) (.cells #[.slice none 0 0, .slice none 0 0, .int .i64 0, .int .i64 0, .int .u64 0, .int .u64 0, .int .i64 0, .int .i64 0, .int .u64 0, .int .u64 0] 93))
    clear hb1 x0 x1 x2 x3
    go_wp2
    go_ret2
    exact ⟨_, rfl, Row.nil _ _ _ _ _, B1.out⟩
  | true =>
    rw [show tiR ws ps es qs = (tiL (dvN ws ps es qs), 0) by unfold tiR; rw [ok]; rfl]
    have i : imgB (dvN ws ps es qs) (dvD ws ps es qs) = true := by rw [dv_img]; exact ok
    have nl := (img_parts i).1
    have nl' : (dvN ws ps es qs).length ≤ 16 := by omega
    have OKN := hideIt (img_inos i)
    have LY2 := hideIt (fun w1 hb => LY.out w1 hb ok)
    clear ok i nl LN LY
    generalize (usedOf (mapped (dvN ws ps es qs)) 1).length = n1 at *
    generalize othM 24 (setM (usedOf (mapped (dvN ws ps es qs)) 1)) = f1 at *
    generalize setM (usedOf (mapped (dvN ws ps es qs)) 1) = m1 at *
    generalize (usedOf (mapped (dvN ws ps es qs)) 2).length = n2 at *
    generalize othM 32 (setM (usedOf (mapped (dvN ws ps es qs)) 2)) = f2 at *
    generalize setM (usedOf (mapped (dvN ws ps es qs)) 2) = m2 at *
    generalize dvN ws ps es qs = dn at *
    generalize dvD ws ps es qs = dd at *
    go_enter Tryz.func14, Tryz.ntmps14
    go_wp2_with fail
    refine (LY2.out _ BW.out).mono ?_
    rintro e w1 ⟨a1, c1, a2, c2, rfl, hI, hb1⟩
    obtain ⟨w2, hw2⟩ : ∃ w2, w2 = w1.alloc (.cells #[.slice a1 dn.length c1, .slice a2 dd.length c2, .int .i64 n1, .int .i64 24, .int .u64 m1, .int .u64 f1, .int .i64 n2, .int .i64 32, .int .u64 m2, .int .u64 f2] 93) := ⟨_, rfl⟩
    have I2 : Hid (w2.heap[w1.heap.size]? = some (.cells #[.slice a1 dn.length c1, .slice a2 dd.length c2, .int .i64 n1, .int .i64 24, .int .u64 m1, .int .u64 f1, .int .i64 n2, .int .i64 32, .int .u64 m2, .int .u64 f2] 93 (0, 0))) := by rw [hw2]; exact at_new rfl
    have B2 : Hid (Below w.heap.size w w2) := by rw [hw2]; exact (below_trans BW.out hb1 BW.out.size).alloc (Nat.le_trans BW.out.size hb1.size) _
    have R2 : Hid (RdIm w2 (.agg #[.slice a1 dn.length c1, .slice a2 dd.length c2]) dn dd) := by rw [hw2]; exact hI.below ((Below.refl _ _).alloc (Nat.le_refl _) _)
    have hz2 : w1.heap.size < w2.heap.size := by rw [hw2]; simp
    have hzw : w.heap.size ≤ w2.heap.size := B2.out.size
    clear hb1 x0 x1 x2 x3 hI LY2
    obtain ⟨vW, vP, e1, h1, h2⟩ := R2.out
    cases e1
    obtain ⟨aW', cW', e2, _, hcW⟩ := h1.shape
    cases e2
    have HW := hideIt hcW
    clear h1 h2 hcW R2
    obtain ⟨⟨z0, z1, z2, z3, z4, z5, z6, z7, z8, z9⟩, -⟩ := tenU I2.out
    go_upto_region 4 with fail
    rw [← hw2]
    clear hw2
    obtain ⟨w3, hw3⟩ : ∃ w3, w3 = w2.alloc (.cells #[.int .i64 0, .int .i64 0, .int .i64 0] 104) := ⟨_, rfl⟩
    have C3 : Hid (w3.heap[w2.heap.size]? = some (.cells #[.int .i64 0, .int .i64 0, .int .i64 0] 104 (0, 0))) := by rw [hw3]; exact at_new rfl
    have B3 : Hid (Below w2.heap.size w2 w3) := by rw [hw3]; exact (Below.refl _ _).alloc (Nat.le_refl _) _
    have AK : Hid (∀ w', Below w2.heap.size w2 w' → w'.cell? ⟨w1.heap.size, 0, none⟩ = some (.slice a1 dn.length c1)) := fun w' hb => (tenU ((hb.block _ hz2).trans I2.out)).1.1
    clear z0 z1 z2 z3 z4 z5 z6 z7 z8 z9
    have z0 := AK.out _ B3.out
    go_upto_region 5 with fail
    rw [← hw3]
    clear hw3
    go_wp2
    go_loopg [8, 10, 11, 12, 13, 26] dn.length (fun g _ _ _ _ _ iv wr => ∃ i : Nat, i + g = dn.length ∧ iv = .int .i64 i ∧ Hid (Below w2.heap.size w2 wr) ∧ Hid (wr.heap[w2.heap.size]? = some (.cells #[.int .i64 (tcT 0 (dn.take i)), .int .i64 (tcT 1 (dn.take i)), .int .i64 (tcT 2 (dn.take i))] 104 (0, 0))))
    case atStart => exact ⟨0, by omega, rfl, B3.out, C3.out⟩
    case round =>
      clear z0 B3 C3
      obtain ⟨i, hi, rfl, B, C⟩ := hrel
      have hzr : w2.heap.size < wr.heap.size := (Array.getElem?_eq_some_iff.1 C.out).1
      have i0 : (0 : Int) ≤ (i : Int) := by omega
      by_cases hlt : i < dn.length
      · obtain ⟨b, o, rfl, hbl, hcell⟩ := HW.out (by omega)
        have i1 : (i : Int) < (dn.length : Int) := by omega
        have T0 := hideIt (tcT_take (t := 0) hlt)
        have T1 := hideIt (tcT_take (t := 1) hlt)
        have T2 := hideIt (tcT_take (t := 2) hlt)
        have L0 := tcT_le 0 (dn.take i)
        have L1 := tcT_le 1 (dn.take i)
        have L2 := tcT_le 2 (dn.take i)
        rw [List.length_take] at L0 L1 L2
        obtain ⟨⟨s0, s1⟩, tb, -⟩ := ino_told (OKN.out i hlt)
        obtain ⟨d0, d1, d2, d3, d4, d5, d6, d7, d8, d9, d10⟩ := hcell i hlt
        replace d0 := (B.out.cell (p := ⟨b, o + i * 11, none⟩) hbl).trans d0
        replace d1 := (B.out.cell (p := ⟨b, o + i * 11 + 1, none⟩) hbl).trans d1
        replace d2 := (B.out.cell (p := ⟨b, o + i * 11 + 2, none⟩) hbl).trans d2
        replace d3 := (B.out.cell (p := ⟨b, o + i * 11 + 3, none⟩) hbl).trans d3
        replace d4 := (B.out.cell (p := ⟨b, o + i * 11 + 4, none⟩) hbl).trans d4
        replace d5 := (B.out.cell (p := ⟨b, o + i * 11 + 5, none⟩) hbl).trans d5
        replace d6 := (B.out.cell (p := ⟨b, o + i * 11 + 6, none⟩) hbl).trans d6
        replace d7 := (B.out.cell (p := ⟨b, o + i * 11 + 7, none⟩) hbl).trans d7
        replace d8 := (B.out.cell (p := ⟨b, o + i * 11 + 8, none⟩) hbl).trans d8
        replace d9 := (B.out.cell (p := ⟨b, o + i * 11 + 9, none⟩) hbl).trans d9
        replace d10 := (B.out.cell (p := ⟨b, o + i * 11 + 10, none⟩) hbl).trans d10
        obtain ⟨n, hn⟩ : ∃ n : Nat, dn[i].size = (n : Int) := ⟨dn[i].size.toNat, by omega⟩
        rw [hn] at d1 s0 s1 T0 T1 T2
        rw [Int.toNat_natCast] at T0 T1 T2
        have n8 : (n : Int) ≤ 8 := by omega
        have n0 : (0 : Int) ≤ (n : Int) := by omega
        obtain ⟨x, hx⟩ : ∃ x : Ino, x = dn[i] := ⟨_, rfl⟩
        rw [← hx] at d0 d2 d3 d4 d5 d6 d7 d8 d9 d10 T0 T1 T2 tb
        clear hx hn hcell
        have TB : Hid (∀ j, j < 8 → tieB (x.map.getD j 0) = true) := fun j hj => by
          rw [List.getD_eq_getElem?_getD, List.getElem?_eq_getElem (show j < x.map.length from hj), Option.getD_some]
          exact tb _ (List.getElem_mem _)
        have CT := hideIt (fun t k (hk : k < 8) => ctT_take (t := t) (l := x.map) (k := k) hk)
        have CL := hideIt (fun t k => ctT_le t (x.map.take k))
        clear tb
        obtain ⟨w5, hw5⟩ : ∃ w5, w5 = wr.alloc (.cells #[.int .i64 x.kind, .int .i64 (n : Int), .int .i64 x.links, .int .i64 x.m0, .int .i64 x.m1, .int .i64 x.m2, .int .i64 x.m3, .int .i64 x.m4, .int .i64 x.m5, .int .i64 x.m6, .int .i64 x.m7] 103) := ⟨_, rfl⟩
        have X5 : Hid (w5.heap[wr.heap.size]? = some (.cells #[.int .i64 x.kind, .int .i64 (n : Int), .int .i64 x.links, .int .i64 x.m0, .int .i64 x.m1, .int .i64 x.m2, .int .i64 x.m3, .int .i64 x.m4, .int .i64 x.m5, .int .i64 x.m6, .int .i64 x.m7] 103 (0, 0))) := by rw [hw5]; exact at_new rfl
        have C5 : Hid (w5.heap[w2.heap.size]? = some (.cells #[.int .i64 (tcT 0 (dn.take i)), .int .i64 (tcT 1 (dn.take i)), .int .i64 (tcT 2 (dn.take i))] 104 (0, 0))) := by rw [hw5]; exact at_old C.out
        have B5 : Hid (Below w2.heap.size w2 w5) := by rw [hw5]; exact B.out.alloc (by omega) _
        obtain ⟨bx, hbx⟩ : ∃ bx : Nat, bx = wr.heap.size := ⟨_, rfl⟩
        have zbx : w2.heap.size < bx := by omega
        rw [← hbx] at X5
        obtain ⟨g1, -⟩ := map_cell (s := .int .i64 (n : Int)) X5.out
        obtain ⟨t0, ht0⟩ : ∃ t : Nat, t = tcT 0 (dn.take i) := ⟨_, rfl⟩
        obtain ⟨t1, ht1⟩ : ∃ t : Nat, t = tcT 1 (dn.take i) := ⟨_, rfl⟩
        obtain ⟨t2, ht2⟩ : ∃ t : Nat, t = tcT 2 (dn.take i) := ⟨_, rfl⟩
        rw [← ht0] at T0 L0 C5
        rw [← ht1] at T1 L1 C5
        rw [← ht2] at T2 L2 C5
        clear ht0 ht1 ht2 C
        go_upto_region 8 with fail
        rw [← hw5, ← hbx]
        clear hw5 hbx d0 d1 d2 d3 d4 d5 d6 d7 d8 d9 d10
        go_wp2
        go_loopg [10, 11, 12, 13, 35] n (fun gi _ _ _ _ kv wq => ∃ k : Nat, k + gi = n ∧ kv = .int .i64 k ∧ Hid (Below w2.heap.size w2 wq) ∧ Hid (wq.heap[bx]? = some (.cells #[.int .i64 x.kind, .int .i64 (n : Int), .int .i64 x.links, .int .i64 x.m0, .int .i64 x.m1, .int .i64 x.m2, .int .i64 x.m3, .int .i64 x.m4, .int .i64 x.m5, .int .i64 x.m6, .int .i64 x.m7] 103 (0, 0))) ∧ Hid (wq.heap[w2.heap.size]? = some (.cells #[.int .i64 ((t0 + ctT 0 (x.map.take k) : Nat) : Int), .int .i64 ((t1 + ctT 1 (x.map.take k) : Nat) : Int), .int .i64 ((t2 + ctT 2 (x.map.take k) : Nat) : Int)] 104 (0, 0))))
        case atStart => exact ⟨0, by omega, rfl, B5.out, X5.out, C5.out⟩
        case round =>
          clear g1 B5 X5 C5 B
          obtain ⟨k, hk, rfl, B, X, C⟩ := hrel
          have k0 : (0 : Int) ≤ (k : Int) := by omega
          by_cases hlt2 : k < n
          · have k1 : (k : Int) < (n : Int) := by omega
            have m1 := (map_cell (s := .int .i64 (n : Int)) X.out).2 k (by omega)
            have tz := (tie_zero (TB.out k (by omega))).2
            obtain ⟨u1, u2, u3⟩ := tie_in (TB.out k (by omega))
            have u4 := tie_small (TB.out k (by omega))
            have LT := hideIt (fun w3 (hT : TS w3) => implTierOf_any (x.map.getD k 0) w3 hT (by omega) (by omega))
            rw [u1, u2, u3] at LT
            have TW := hideIt (T.out.below (below_trans B2.out B.out hzw))
            have P0 := hideIt (CT.out 0 k (by omega))
            have P1 := hideIt (CT.out 1 k (by omega))
            have P2 := hideIt (CT.out 2 k (by omega))
            have q0 := CL.out 0 k
            have q1 := CL.out 1 k
            have q2 := CL.out 2 k
            rw [List.length_take, Ino.len] at q0 q1 q2
            clear u1 u2 u3
            generalize x.map.getD k 0 = z at *
            obtain ⟨a0, ha0⟩ : ∃ a : Nat, a = t0 + ctT 0 (x.map.take k) := ⟨_, rfl⟩
            obtain ⟨a1', ha1⟩ : ∃ a : Nat, a = t1 + ctT 1 (x.map.take k) := ⟨_, rfl⟩
            obtain ⟨a2', ha2⟩ : ∃ a : Nat, a = t2 + ctT 2 (x.map.take k) := ⟨_, rfl⟩
            rw [← ha0, ← ha1, ← ha2] at C
            have E0 : Hid (t0 + ctT 0 (x.map.take (k + 1)) = a0 + if z % 4 = 0 then 1 else 0) := by unfold Hid; rw [P0.out, ha0, Nat.add_assoc]
            have E1 : Hid (t1 + ctT 1 (x.map.take (k + 1)) = a1' + if z % 4 = 1 then 1 else 0) := by unfold Hid; rw [P1.out, ha1, Nat.add_assoc]
            have E2 : Hid (t2 + ctT 2 (x.map.take (k + 1)) = a2' + if z % 4 = 2 then 1 else 0) := by unfold Hid; rw [P2.out, ha2, Nat.add_assoc]
            have b0 : (a0 : Int) ≤ 1000 := by omega
            have b1 : (a1' : Int) ≤ 1000 := by omega
            have b2 : (a2' : Int) ≤ 1000 := by omega
            clear ha0 ha1 ha2 P0 P1 P2 q0 q1 q2
            obtain ⟨⟨c0, c1', c2'⟩, f0, f1', f2'⟩ := triZ C.out
            have nx : ¬ bx = w2.heap.size := by omega
            rcases tz with r | r | r
            · rw [r] at LT
              have Y := hideIt (tri_s0 C.out (.int .i64 ((a0 + 1 : Nat) : Int)))
              have E0' := hideIt (show t0 + ctT 0 (x.map.take (k + 1)) = a0 + 1 by rw [E0.out, if_pos r])
              have E1' := hideIt (show t1 + ctT 1 (x.map.take (k + 1)) = a1' by rw [E1.out, if_neg (by omega), Nat.add_zero])
              have E2' := hideIt (show t2 + ctT 2 (x.map.take (k + 1)) = a2' by rw [E2.out, if_neg (by omega), Nat.add_zero])
              clear E0 E1 E2
              go_wp2_with (go_at_call 45; refine (LT.out _ TW.out).mono ?_; rintro e w' ⟨rfl, rfl⟩)
              go_roundg (gk - 1)
              case measure => omega
              case rel => exact ⟨k + 1, by omega, by go_num, B.out.setCell (Nat.le_refl _) _, set_other X.out nx _, by unfold Hid; rw [E0'.out, E1'.out, E2'.out]; have := Y.out; push_cast at this ⊢; exact this⟩
            · rw [r] at LT
              have Y := hideIt (tri_s1 C.out (.int .i64 ((a1' + 1 : Nat) : Int)))
              have E0' := hideIt (show t0 + ctT 0 (x.map.take (k + 1)) = a0 by rw [E0.out, if_neg (by omega), Nat.add_zero])
              have E1' := hideIt (show t1 + ctT 1 (x.map.take (k + 1)) = a1' + 1 by rw [E1.out, if_pos r])
              have E2' := hideIt (show t2 + ctT 2 (x.map.take (k + 1)) = a2' by rw [E2.out, if_neg (by omega), Nat.add_zero])
              clear E0 E1 E2
              go_wp2_with (go_at_call 45; refine (LT.out _ TW.out).mono ?_; rintro e w' ⟨rfl, rfl⟩)
              go_roundg (gk - 1)
              case measure => omega
              case rel => exact ⟨k + 1, by omega, by go_num, B.out.setCell (Nat.le_refl _) _, set_other X.out nx _, by unfold Hid; rw [E0'.out, E1'.out, E2'.out]; have := Y.out; push_cast at this ⊢; exact this⟩
            · rw [r] at LT
              have Y := hideIt (tri_s2 C.out (.int .i64 ((a2' + 1 : Nat) : Int)))
              have E0' := hideIt (show t0 + ctT 0 (x.map.take (k + 1)) = a0 by rw [E0.out, if_neg (by omega), Nat.add_zero])
              have E1' := hideIt (show t1 + ctT 1 (x.map.take (k + 1)) = a1' by rw [E1.out, if_neg (by omega), Nat.add_zero])
              have E2' := hideIt (show t2 + ctT 2 (x.map.take (k + 1)) = a2' + 1 by rw [E2.out, if_pos r])
              clear E0 E1 E2
              go_wp2_with (go_at_call 45; refine (LT.out _ TW.out).mono ?_; rintro e w' ⟨rfl, rfl⟩)
              go_roundg (gk - 1)
              case measure => omega
              case rel => exact ⟨k + 1, by omega, by go_num, B.out.setCell (Nat.le_refl _) _, set_other X.out nx _, by unfold Hid; rw [E0'.out, E1'.out, E2'.out]; have := Y.out; push_cast at this ⊢; exact this⟩
          · obtain rfl : k = n := by omega
            rw [← T0.out, ← T1.out, ← T2.out] at C
            go_wp2
            go_roundg (dn.length - i - 1)
            case measure => omega
            case rel => exact ⟨i + 1, by omega, by go_num, B.out, C.out⟩
      · obtain rfl : i = dn.length := by omega
        rw [List.take_length] at C
        obtain ⟨⟨c0, c1', c2'⟩, f0, f1', f2'⟩ := triZ C.out
        have B9 := hideIt (below_trans B2.out B.out hzw)
        have R9 := hideIt ((row_three wr (tcT 1 dn) (tcT 2 dn) (tcT 0 dn)).wide B9.out.size (Nat.le_refl _))
        have E9 := hideIt (B9.out.alloc B9.out.size (.cells #[.int .i64 (tcT 1 dn), .int .i64 (tcT 2 dn), .int .i64 (tcT 0 dn)] 3))
        go_wp2
        go_ret2
        exact ⟨_, rfl, R9.out, E9.out⟩
end Go.Proofs.YtbjjdkemappelaaGreatDoor

