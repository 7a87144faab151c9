/- Several texts laid together: Mem, Word, PmOK, BlkOK, Wd, Ev, PmOKI, Small, BlkOKI, WdM, Nm, ImD, PiC, PiE, PmSeen, AtE. -/
import Derived.Test.YtlgghookekokaaaGreatDoorZBT
import Derived.Test.YtlgghookekokaaaGreatDoorOpenI
import Derived.WalkKit
import Derived.WalkSpells
import Derived.WalkSmall
import Derived.Deep.OwnRows
import Derived.Deep.QuietTactic
import Derived.BigQuiet
import Derived.Deep.RegionWith
import Derived.Deep.RegionLaw
import Derived.Deep.DeepCutAuto
import Derived.Laws.IdiomStrings
import Derived.Laws.BytesArg
import Derived.Deep.RegionHeld3
import Derived.Laws.OwnMore
import Derived.Laws.CopyRow
import Derived.Laws.CopyOwn
import Derived.Lib.Strings
import Derived.BigRegion
import Derived.ProofKit
import Derived.OpenShut
import Derived.ShutString
import Derived.ChangeOld
import Derived.Lib.SmallJoins
import Derived.Deep.Slices
import Derived.Deep.Strs
import Derived.Laws.Cover3
import Derived.Lib.SplitLaws
import Derived.Lib.IndexBytes
import Derived.Deep.LoopGhost
import Derived.Sort.Walk0
import Derived.Laws.Cover1
import Derived.Maps.Views
import Derived.KernelRfl
import Derived.Orders
import Derived.Shelf.Sort.Plain
import Derived.Shelf.Slices.In.SortNone
import Derived.Lib.LaidTab
import Derived.Deep.DeepHandedRow
namespace Go.Proofs.YtlgghookekokaaaGreatDoor
open Go.RowKit

theorem Row.sameV {w w' : World} {e : TypeId} {size lo hi : Nat} {v : Value} {n : Nat} {xs : List Value} (h : Row w e size lo hi v n xs) (hs : ∀ b, v.ownBlock = some b → w'.heap[b]? = w.heap[b]?) : Row w' e size lo hi v n xs := by
  obtain ⟨⟨h1, h2⟩, h3⟩ := h
  refine ⟨⟨h1, ?_⟩, h3⟩
  rcases h2 with h2 | ⟨g, cap, cur, rfl, hb, hg, r⟩
  · exact .inl h2
  · exact .inr ⟨g, cap, cur, rfl, hb, (hs g rfl).trans hg, r⟩
theorem Row.setOther {w : World} {e : TypeId} {size lo hi : Nat} {v : Value} {n : Nat} {xs : List Value} (h : Row w e size lo hi v n xs) {a : Addr} (ha : v.ownBlock ≠ some a.block) (u : Value) : Row (w.setCell a u) e size lo hi v n xs :=
  h.sameV (fun b hb => Below.heap_setCell _ _ _ _ (fun e => ha (by rw [hb, e])))
end Go.Proofs.YtlgghookekokaaaGreatDoor

namespace Go.Proofs.YtlgghookekokaaaGreatDoor
open Go.RowKit

theorem isWord_any (n : Int) (w : World) : Calls Tryz.prog 116 #[.int .i64 n] w fun e w' => e = .returned (.bool (wordB n)) ∧ w' = w := by
  by_cases h0 : 0 ≤ n
  · by_cases h1 : n < 1099511627776
    · have e : wordB n = true := decide_eq_true ⟨h0, h1⟩
      rw [e]; clear e
      go_enter Tryz.func116, Tryz.ntmps116
      go_wp2
      go_ret
      exact ⟨rfl, rfl⟩
    · have e : wordB n = false := decide_eq_false (fun h => h1 h.2)
      rw [e]; clear e
      go_enter Tryz.func116, Tryz.ntmps116
      go_wp2
      go_ret
      exact ⟨rfl, rfl⟩
  · have e : wordB n = false := decide_eq_false (fun h => h0 h.1)
    rw [e]; clear e
    go_enter Tryz.func116, Tryz.ntmps116
    go_wp2
    go_ret
    exact ⟨rfl, rfl⟩

theorem isPlace_any (n : Int) (w : World) : Calls Tryz.prog 169 #[.int .i64 n] w fun e w' => e = .returned (.bool (placeB n)) ∧ w' = w := by
  by_cases h0 : 0 ≤ n
  · by_cases h1 : n < 336
    · have e : placeB n = true := decide_eq_true ⟨h0, h1⟩
      rw [e]; clear e
      go_enter Tryz.func169, Tryz.ntmps169
      go_wp2
      go_ret
      exact ⟨rfl, rfl⟩
    · have e : placeB n = false := decide_eq_false (fun h => h1 h.2)
      rw [e]; clear e
      go_enter Tryz.func169, Tryz.ntmps169
      go_wp2
      go_ret
      exact ⟨rfl, rfl⟩
  · have e : placeB n = false := decide_eq_false (fun h => h0 h.1)
    rw [e]; clear e
    go_enter Tryz.func169, Tryz.ntmps169
    go_wp2
    go_ret
    exact ⟨rfl, rfl⟩

theorem isSector_any (n : Int) (w : World) : Calls Tryz.prog 170 #[.int .i64 n] w fun e w' => e = .returned (.bool (secB n)) ∧ w' = w := by
  by_cases h0 : 0 ≤ n
  · by_cases h1 : n < 32
    · have e : secB n = true := decide_eq_true ⟨h0, h1⟩
      rw [e]; clear e
      go_enter Tryz.func170, Tryz.ntmps170
      go_wp2
      go_ret
      exact ⟨rfl, rfl⟩
    · have e : secB n = false := decide_eq_false (fun h => h1 h.2)
      rw [e]; clear e
      go_enter Tryz.func170, Tryz.ntmps170
      go_wp2
      go_ret
      exact ⟨rfl, rfl⟩
  · have e : secB n = false := decide_eq_false (fun h => h0 h.1)
    rw [e]; clear e
    go_enter Tryz.func170, Tryz.ntmps170
    go_wp2
    go_ret
    exact ⟨rfl, rfl⟩

/-- All are words. -/
def wordsB (zs : List Int) : Bool := decide (∀ k (h : k < zs.length), wordB zs[k] = true)
theorem wordsB_true {zs : List Int} (h : wordsB zs = true) : ∀ k (h : k < zs.length), wordB zs[k] = true := of_decide_eq_true h
theorem wordsB_mk {zs : List Int} (h : ∀ k (h : k < zs.length), wordB zs[k] = true) : wordsB zs = true := decide_eq_true h
theorem wordsB_not {zs : List Int} {k : Nat} (hk : k < zs.length) (h : wordB zs[k] = false) : wordsB zs = false := decide_eq_false (fun x => by have := x k hk; rw [h] at this; cases this)
theorem wordsB_ex {zs : List Int} (h : wordsB zs = false) : ∃ k, ∃ h : k < zs.length, wordB zs[k] = false := by
  apply Classical.byContradiction
  intro hn
  have : wordsB zs = true := wordsB_mk (fun k hk => by
    cases e : wordB zs[k] with
    | true => rfl
    | false => exact absurd ⟨k, hk, e⟩ hn)
  rw [h] at this
  cases this

end Go.Proofs.YtlgghookekokaaaGreatDoor

namespace Go.Proofs.YtlgghookekokaaaGreatDoor
open Go.RowKit

theorem pmB_len1 {ws : List Int} {ps : List St} (h : ¬ ws.length = 336) : pmB ws ps = false := decide_eq_false (fun x => h x.1)
theorem pmB_len2 {ws : List Int} {ps : List St} (h : 400 < ps.length) : pmB ws ps = false := decide_eq_false (fun x => absurd x.2.1 (by omega))
theorem pmB_w {ws : List Int} {ps : List St} {k : Nat} (hk : k < ws.length) (h : wordB ws[k] = false) : pmB ws ps = false := decide_eq_false (fun x => by have := x.2.2.1 k hk; rw [h] at this; cases this)
theorem pmB_a {ws : List Int} {ps : List St} {k : Nat} (hk : k < ps.length) (h : placeB ps[k].at_ = false) : pmB ws ps = false := decide_eq_false (fun x => by have := (x.2.2.2 k hk).1; rw [h] at this; cases this)
theorem pmB_v {ws : List Int} {ps : List St} {k : Nat} (hk : k < ps.length) (h : wordB ps[k].val = false) : pmB ws ps = false := decide_eq_false (fun x => by have := (x.2.2.2 k hk).2; rw [h] at this; cases this)

end Go.Proofs.YtlgghookekokaaaGreatDoor

namespace Go.Proofs.YtlgghookekokaaaGreatDoor
open Go.RowKit

theorem blkB_len1 {ws : List Int} {ps : List Se} (h : ¬ ws.length = 32) : blkB ws ps = false := decide_eq_false (fun x => h x.1)
theorem blkB_len2 {ws : List Int} {ps : List Se} (h : 400 < ps.length) : blkB ws ps = false := decide_eq_false (fun x => absurd x.2.1 (by omega))
theorem blkB_w {ws : List Int} {ps : List Se} {k : Nat} (hk : k < ws.length) (h : wordB ws[k] = false) : blkB ws ps = false := decide_eq_false (fun x => by have := x.2.2.1 k hk; rw [h] at this; cases this)
theorem blkB_a {ws : List Int} {ps : List Se} {k : Nat} (hk : k < ps.length) (h : secB ps[k].at_ = false) : blkB ws ps = false := decide_eq_false (fun x => by have := (x.2.2.2 k hk).1; rw [h] at this; cases this)
theorem blkB_v {ws : List Int} {ps : List Se} {k : Nat} (hk : k < ps.length) (h : wordB ps[k].val = false) : blkB ws ps = false := decide_eq_false (fun x => by have := (x.2.2.2 k hk).2; rw [h] at this; cases this)

end Go.Proofs.YtlgghookekokaaaGreatDoor

namespace Go.Proofs.YtlgghookekokaaaGreatDoor
open Go.RowKit

/-- Where a field stands, and the code. -/
def inoV (i f : Int) : Int := if (0 ≤ i ∧ i < 16) ∧ 0 ≤ f ∧ f < 11 then 48 + 12 * i + f else 0
def inoC (i f : Int) : Int := if (0 ≤ i ∧ i < 16) ∧ 0 ≤ f ∧ f < 11 then 0 else 4
theorem ino_in {i f : Int} (h : 0 ≤ i ∧ i < 16) (k : 0 ≤ f ∧ f < 11) : inoV i f = 48 + 12 * i + f ∧ inoC i f = 0 := by unfold inoV inoC; rw [if_pos ⟨h, k⟩, if_pos ⟨h, k⟩]; exact ⟨rfl, rfl⟩
theorem ino_out {i f : Int} (h : ¬ ((0 ≤ i ∧ i < 16) ∧ 0 ≤ f ∧ f < 11)) : inoV i f = 0 ∧ inoC i f = 4 := by unfold inoV inoC; rw [if_neg h, if_neg h]; exact ⟨rfl, rfl⟩

theorem implInode_any (i f : Int) (w : World) : Calls Tryz.prog 52 #[.int .i64 i, .int .i64 f] w fun e w' => e = .returned (.tuple #[.int .i64 (inoV i f), .int .i64 (inoC i f)]) ∧ w' = w := by
  by_cases c1 : 0 ≤ i ∧ i < 16
  · by_cases c2 : 0 ≤ f ∧ f < 11
    · have c3 := c1.1
      have c4 := c1.2
      have E := hideIt (ino_in c1 c2)
      go_enter Tryz.func52, Tryz.ntmps52
      go_wp2_with (first | (go_at_call 71; refine (isIndex_yes _ _ _ (by omega)).mono ?_; rintro e w' ⟨rfl, rfl⟩) | (go_at_call 71; refine (isIndex_no _ _ _ (by omega)).mono ?_; rintro e w' ⟨rfl, rfl⟩))
      go_ret2
      exact ⟨ret_two (by rw [E.out.1]) E.out.2.symm, rfl⟩
    · have c3 : ¬ ((0 ≤ i ∧ i < 16) ∧ 0 ≤ f ∧ f < 11) := fun x => c2 x.2
      have E := hideIt (ino_out c3)
      go_enter Tryz.func52, Tryz.ntmps52
      go_wp2_with (first | (go_at_call 71; refine (isIndex_yes _ _ _ (by omega)).mono ?_; rintro e w' ⟨rfl, rfl⟩) | (go_at_call 71; refine (isIndex_no _ _ _ (by omega)).mono ?_; rintro e w' ⟨rfl, rfl⟩))
      go_ret2
      exact ⟨ret_two (by rw [E.out.1]) E.out.2.symm, rfl⟩
  · have c3 : ¬ ((0 ≤ i ∧ i < 16) ∧ 0 ≤ f ∧ f < 11) := fun x => c1 x.1
    have E := hideIt (ino_out c3)
    go_enter Tryz.func52, Tryz.ntmps52
    go_wp2_with (first | (go_at_call 71; refine (isIndex_yes _ _ _ (by omega)).mono ?_; rintro e w' ⟨rfl, rfl⟩) | (go_at_call 71; refine (isIndex_no _ _ _ (by omega)).mono ?_; rintro e w' ⟨rfl, rfl⟩))
    go_ret2
    exact ⟨ret_two (by rw [E.out.1]) E.out.2.symm, rfl⟩

end Go.Proofs.YtlgghookekokaaaGreatDoor

namespace Go.Proofs.YtlgghookekokaaaGreatDoor
open Go.RowKit

set_option maxHeartbeats 2000000 in
theorem everyWord_any (v : Value) (zs : List Int) (w : World) (h : RdI w v zs) (hn : zs.length ≤ 2147483648) :
    Calls Tryz.prog 115 #[v, .func (.func 116) #[] #[]] w fun e w' => e = .returned (.bool (wordsB zs)) ∧ w' = w := by
  obtain ⟨ao, cap, rfl, _, hc⟩ := h.shape
  clear h
  go_enter Tryz.func115, Tryz.ntmps115
  go_wp2
  go_loop [6, 9] (fun _ i => ∃ k : Nat, k ≤ zs.length ∧ i = .int .i64 k ∧ Hid (∀ j (h : j < zs.length), j < k → wordB zs[j] = true)) (fun _ i => zs.length - (intOf i).toNat)
  case atStart => exact ⟨0, by omega, rfl, fun j h a => absurd a (by omega)⟩
  case round =>
    obtain ⟨k, hk, rfl, H⟩ := hrel
    by_cases hlt : k < zs.length
    · obtain ⟨b, o, rfl, hbl, hcell⟩ := hc (by omega)
      have hck := hcell k hlt
      clear hcell hc
      by_cases q : wordB zs[k] = true
      · go_wp2_with (go_at_call 116; refine (isWord_any _ _).mono ?_; rintro e w' ⟨rfl, rfl⟩)
        go_round
        case rel =>
          refine ⟨k + 1, by omega, by go_num, fun j h a => ?_⟩
          by_cases e : j = k
          · subst e; exact q
          · exact H.out j h (by omega)
        case measure => simp [intOf]; omega
      · have q' : wordB zs[k] = false := by simpa using q
        have E := hideIt (wordsB_not hlt q')
        go_wp2_with (go_at_call 116; refine (isWord_any _ _).mono ?_; rintro e w' ⟨rfl, rfl⟩)
        go_ret
        exact ⟨ret_bool E.out.symm, rfl⟩
    · have E := hideIt (wordsB_mk (fun j h => H.out j h (by omega)))
      clear H
      go_wp2
      go_ret
      exact ⟨ret_bool E.out.symm, rfl⟩

end Go.Proofs.YtlgghookekokaaaGreatDoor

namespace Go.Proofs.YtlgghookekokaaaGreatDoor
open Go.RowKit

/-- A store that is right. -/
def stB (s : St) : Bool := placeB s.at_ && wordB s.val
theorem stB_true {s : St} (h : stB s = true) : placeB s.at_ = true ∧ wordB s.val = true := by unfold stB at h; simpa using h
theorem stB_false {s : St} {p : Prop} (h : stB s = false) (h1 : placeB s.at_ = false → p) (h2 : wordB s.val = false → p) : p := by
  unfold stB at h
  rw [Bool.and_eq_false_iff] at h
  exact h.elim h1 h2
/-- All stores are right. -/
def stsB (ps : List St) : Bool := decide (∀ k (h : k < ps.length), stB ps[k] = true)
theorem stsB_true {ps : List St} (h : stsB ps = true) : ∀ k (h : k < ps.length), stB ps[k] = true := of_decide_eq_true h
theorem stsB_mk {ps : List St} (h : ∀ k (h : k < ps.length), stB ps[k] = true) : stsB ps = true := decide_eq_true h
theorem stsB_not {ps : List St} {k : Nat} (hk : k < ps.length) (h : stB ps[k] = false) : stsB ps = false := decide_eq_false (fun x => by have := x k hk; rw [h] at this; cases this)
theorem stsB_ex {ps : List St} (h : stsB ps = false) : ∃ k, ∃ h : k < ps.length, stB ps[k] = false := by
  apply Classical.byContradiction
  intro hn
  have : stsB ps = true := stsB_mk (fun k hk => by
    cases e : stB ps[k] with
    | true => rfl
    | false => exact absurd ⟨k, hk, e⟩ hn)
  rw [h] at this
  cases this

set_option maxHeartbeats 1000000 in
theorem isStore_any (s : St) (w : World) : Calls Tryz.prog 118 #[.agg #[.int .i64 s.at_, .int .i64 s.val, .bool s.fl]] w fun e w' => e = .returned (.bool (stB s)) ∧ Below w.heap.size w w' := by
  have hb0 : Below w.heap.size w (w.alloc (.cells #[.int .i64 s.at_, .int .i64 s.val, .bool s.fl] 143)) := (Below.refl _ _).alloc (Nat.le_refl _) _
  by_cases q : placeB s.at_ = true
  · have E := hideIt (show stB s = wordB s.val by unfold stB; rw [q]; rfl)
    have Q := hideIt q
    clear q
    go_enter Tryz.func118, Tryz.ntmps118
    go_wp2_with (first | (go_at_call 169; refine (isPlace_any _ _).mono ?_; rw [Q.out]; rintro e w' ⟨rfl, rfl⟩) | (go_at_call 116; refine (isWord_any _ _).mono ?_; rintro e w' ⟨rfl, rfl⟩))
    go_ret
    exact ⟨ret_bool E.out.symm, hb0⟩
  · have q' : placeB s.at_ = false := by simpa using q
    have E := hideIt (show stB s = false by unfold stB; rw [q']; rfl)
    have Q := hideIt q'
    clear q q'
    go_enter Tryz.func118, Tryz.ntmps118
    go_wp2_with (go_at_call 169; refine (isPlace_any _ _).mono ?_; rw [Q.out]; rintro e w' ⟨rfl, rfl⟩)
    go_ret
    exact ⟨ret_bool E.out.symm, hb0⟩

set_option maxHeartbeats 4000000 in
theorem everyStore_any (v : Value) (ps : List St) (w : World) (h : RdS w v ps) (hn : ps.length ≤ 1048576) :
    Calls Tryz.prog 117 #[v, .func (.func 118) #[] #[]] w fun e w' => e = .returned (.bool (stsB ps)) ∧ Below w.heap.size w w' := by
  obtain ⟨aP, cP, rfl, _, hcP⟩ := h.shape
  clear h
  go_enter Tryz.func117, Tryz.ntmps117
  go_wp2
  go_loopw [6, 9] (fun _ i wr => ∃ k : Nat, k ≤ ps.length ∧ i = .int .i64 k ∧ Hid (∀ j (h : j < ps.length), j < k → stB ps[j] = true) ∧ Below w.heap.size w wr) (fun _ i _ => ps.length - (intOf i).toNat)
  case atStart => exact ⟨0, by omega, rfl, fun j h a => absurd a (by omega), Below.refl _ _⟩
  case round =>
    obtain ⟨m, hm, rfl, H, hbw⟩ := hrel
    have hz := hbw.size
    by_cases hlt2 : m < ps.length
    · obtain ⟨b2, o2, rfl, hbl2, hcell2⟩ := hcP (by omega)
      obtain ⟨d0, d1, d2⟩ := hcell2 m hlt2
      have e0 := (hbw.cell (p := ⟨b2, o2 + m * 3, none⟩) hbl2).trans d0
      have e1 := (hbw.cell (p := ⟨b2, o2 + m * 3 + 1, none⟩) hbl2).trans d1
      have e2 := (hbw.cell (p := ⟨b2, o2 + m * 3 + 2, none⟩) hbl2).trans d2
      have hb1 := hideIt (hbw.alloc hz (.cells #[.int .i64 ps[m].at_, .int .i64 ps[m].val, .bool ps[m].fl] 143))
      clear d0 d1 d2 hcell2 hcP
      by_cases q : stB ps[m] = true
      · have Q := hideIt q
        clear q
        go_wp2_with (go_at_call 118; refine (isStore_any ps[m] _).mono ?_; rw [Q.out]; rintro e w' ⟨rfl, hw'⟩)
        have hw2 := hb1.out.trans (hw'.mono (by simp; omega))
        clear hb1 hw'
        go_roundw
        case rel =>
          refine ⟨m + 1, by omega, by go_num, fun j h a => ?_, hw2⟩
          by_cases e : j = m
          · subst e; exact Q.out
          · exact H.out j h (by omega)
        case measure => simp [intOf]; omega
      · have Q := hideIt (show stB ps[m] = false by simpa using q)
        have E := hideIt (stsB_not hlt2 Q.out)
        clear q
        go_wp2_with (go_at_call 118; refine (isStore_any ps[m] _).mono ?_; rw [Q.out]; rintro e w' ⟨rfl, hw'⟩)
        have hw2 := hb1.out.trans (hw'.mono (by simp; omega))
        go_ret
        exact ⟨ret_bool E.out.symm, hw2⟩
    · have E := hideIt (stsB_mk (fun j h => H.out j h (by omega)))
      go_wp2
      go_ret
      exact ⟨ret_bool E.out.symm, hbw⟩

set_option maxHeartbeats 4000000 in
theorem implPmOK_any (v : Value) (ws : List Int) (ps : List St) (w : World) (h : RdPm w v ws ps) (hw : ws.length ≤ 1048576) (hp : ps.length ≤ 1048576) :
    Calls Tryz.prog 73 #[v] w fun e w' => e = .returned (.bool (pmB ws ps)) ∧ Below w.heap.size w w' := by
  obtain ⟨vW, vP, rfl, h1, h2⟩ := h
  obtain ⟨aW, cW, rfl, _, hcW⟩ := h1.shape
  obtain ⟨aP, cP, rfl, _, hcP⟩ := h2.shape
  have H1 := hideIt h1
  have H2 := hideIt h2
  clear h1 h2 hcW hcP
  have hb0 : Below w.heap.size w (w.alloc (.cells #[.slice aW ws.length cW, .slice aP ps.length cP] 31)) := (Below.refl _ _).alloc (Nat.le_refl _) _
  have HB := hideIt hb0
  by_cases c1 : ws.length = 336
  case neg =>
    have E := hideIt (pmB_len1 (ps := ps) c1)
    have c1' : ((ws.length : Int) == 336) = false := by rw [beq_eq_false_iff_ne]; omega
    clear c1
    go_enter Tryz.func73, Tryz.ntmps73
    go_wp2
    go_ret
    exact ⟨ret_bool E.out.symm, HB.out⟩
  have c1n : ((ws.length : Int) == 336) = true := by simp; omega
  have C1 := hideIt c1
  clear c1
  by_cases c2 : 400 < ps.length
  · have E := hideIt (pmB_len2 (ws := ws) c2)
    have c2' : decide ((ps.length : Int) ≤ 400) = false := by simp; omega
    go_enter Tryz.func73, Tryz.ntmps73
    go_wp2
    go_ret
    exact ⟨ret_bool E.out.symm, HB.out⟩
  by_cases c3 : wordsB ws = true
  case neg =>
    have c3' : wordsB ws = false := by simpa using c3
    obtain ⟨k, hk, hkf⟩ := wordsB_ex c3'
    have E := hideIt (pmB_w (ps := ps) hk hkf)
    have W0 := hideIt c3'
    clear c3 c3' hkf hk
    go_enter Tryz.func73, Tryz.ntmps73
    go_wp2_with (go_at_call 115; refine (everyWord_any _ ws _ (Rd.below H1.out HB.out) (by omega)).mono ?_; rw [W0.out]; rintro e w' ⟨rfl, rfl⟩)
    go_ret
    exact ⟨ret_bool E.out.symm, HB.out⟩
  have HW := hideIt (wordsB_true c3)
  have W1 := hideIt c3
  clear c3
  cases c4 : stsB ps with
  | true =>
    have E := hideIt (pmB_mk C1.out (by omega) HW.out (fun j h => stB_true (stsB_true c4 j h)))
    have W2 := hideIt c4
    clear c4
    go_enter Tryz.func73, Tryz.ntmps73
    go_wp2_with (first | (go_at_call 115; refine (everyWord_any _ ws _ (Rd.below H1.out HB.out) (by omega)).mono ?_; rw [W1.out]; rintro e w' ⟨rfl, rfl⟩) | (go_at_call 117; refine (everyStore_any _ ps _ (Rd.below H2.out HB.out) (by omega)).mono ?_; rw [W2.out]; rintro e w' ⟨rfl, hw'⟩))
    go_ret
    exact ⟨ret_bool E.out.symm, HB.out.trans (hw'.mono (by simp))⟩
  | false =>
    obtain ⟨k, hk, hkf⟩ := stsB_ex c4
    have E := hideIt (show pmB ws ps = false from stB_false hkf (pmB_a (ws := ws) hk) (pmB_v (ws := ws) hk))
    have W2 := hideIt c4
    clear c4 hk hkf
    go_enter Tryz.func73, Tryz.ntmps73
    go_wp2_with (first | (go_at_call 115; refine (everyWord_any _ ws _ (Rd.below H1.out HB.out) (by omega)).mono ?_; rw [W1.out]; rintro e w' ⟨rfl, rfl⟩) | (go_at_call 117; refine (everyStore_any _ ps _ (Rd.below H2.out HB.out) (by omega)).mono ?_; rw [W2.out]; rintro e w' ⟨rfl, hw'⟩))
    go_ret
    exact ⟨ret_bool E.out.symm, HB.out.trans (hw'.mono (by simp))⟩
end Go.Proofs.YtlgghookekokaaaGreatDoor

namespace Go.Proofs.YtlgghookekokaaaGreatDoor
open Go.RowKit

theorem pmB_in {ws : List Int} {ps : List St} (h : pmB ws ps = true) : ∀ j (hj : j < ps.length), 0 ≤ ps[j].at_ ∧ ps[j].at_ < ws.length := fun j hj => by
  have h1 := pmB_at h j hj
  have h2 := (pmB_len h).1
  omega
end Go.Proofs.YtlgghookekokaaaGreatDoor

namespace Go.Proofs.YtlgghookekokaaaGreatDoor
open Go.RowKit

/-- A write that is right. -/
def seB (s : Se) : Bool := secB s.at_ && wordB s.val
theorem seB_true {s : Se} (h : seB s = true) : secB s.at_ = true ∧ wordB s.val = true := by unfold seB at h; simpa using h
theorem seB_false {s : Se} {p : Prop} (h : seB s = false) (h1 : secB s.at_ = false → p) (h2 : wordB s.val = false → p) : p := by
  unfold seB at h
  rw [Bool.and_eq_false_iff] at h
  exact h.elim h1 h2
/-- All writes are right. -/
def sesB (ps : List Se) : Bool := decide (∀ k (h : k < ps.length), seB ps[k] = true)
theorem sesB_true {ps : List Se} (h : sesB ps = true) : ∀ k (h : k < ps.length), seB ps[k] = true := of_decide_eq_true h
theorem sesB_mk {ps : List Se} (h : ∀ k (h : k < ps.length), seB ps[k] = true) : sesB ps = true := decide_eq_true h
theorem sesB_not {ps : List Se} {k : Nat} (hk : k < ps.length) (h : seB ps[k] = false) : sesB ps = false := decide_eq_false (fun x => by have := x k hk; rw [h] at this; cases this)
theorem sesB_ex {ps : List Se} (h : sesB ps = false) : ∃ k, ∃ h : k < ps.length, seB ps[k] = false := by
  apply Classical.byContradiction
  intro hn
  have : sesB ps = true := sesB_mk (fun k hk => by
    cases e : seB ps[k] with
    | true => rfl
    | false => exact absurd ⟨k, hk, e⟩ hn)
  rw [h] at this
  cases this

set_option maxHeartbeats 1000000 in
theorem isWrite_any (s : Se) (w : World) : Calls Tryz.prog 120 #[.agg #[.int .i64 s.at_, .int .i64 s.val]] w fun e w' => e = .returned (.bool (seB s)) ∧ Below w.heap.size w w' := by
  have hb0 : Below w.heap.size w (w.alloc (.cells #[.int .i64 s.at_, .int .i64 s.val] 153)) := (Below.refl _ _).alloc (Nat.le_refl _) _
  by_cases q : secB s.at_ = true
  · have E := hideIt (show seB s = wordB s.val by unfold seB; rw [q]; rfl)
    have Q := hideIt q
    clear q
    go_enter Tryz.func120, Tryz.ntmps120
    go_wp2_with (first | (go_at_call 170; refine (isSector_any _ _).mono ?_; rw [Q.out]; rintro e w' ⟨rfl, rfl⟩) | (go_at_call 116; refine (isWord_any _ _).mono ?_; rintro e w' ⟨rfl, rfl⟩))
    go_ret
    exact ⟨ret_bool E.out.symm, hb0⟩
  · have q' : secB s.at_ = false := by simpa using q
    have E := hideIt (show seB s = false by unfold seB; rw [q']; rfl)
    have Q := hideIt q'
    clear q q'
    go_enter Tryz.func120, Tryz.ntmps120
    go_wp2_with (go_at_call 170; refine (isSector_any _ _).mono ?_; rw [Q.out]; rintro e w' ⟨rfl, rfl⟩)
    go_ret
    exact ⟨ret_bool E.out.symm, hb0⟩

set_option maxHeartbeats 4000000 in
theorem everyWrite_any (v : Value) (ps : List Se) (w : World) (h : RdE w v ps) (hn : ps.length ≤ 1048576) :
    Calls Tryz.prog 119 #[v, .func (.func 120) #[] #[]] w fun e w' => e = .returned (.bool (sesB ps)) ∧ Below w.heap.size w w' := by
  obtain ⟨aP, cP, rfl, _, hcP⟩ := h.shape
  clear h
  go_enter Tryz.func119, Tryz.ntmps119
  go_wp2
  go_loopw [6, 9] (fun _ i wr => ∃ k : Nat, k ≤ ps.length ∧ i = .int .i64 k ∧ Hid (∀ j (h : j < ps.length), j < k → seB ps[j] = true) ∧ Below w.heap.size w wr) (fun _ i _ => ps.length - (intOf i).toNat)
  case atStart => exact ⟨0, by omega, rfl, fun j h a => absurd a (by omega), Below.refl _ _⟩
  case round =>
    obtain ⟨m, hm, rfl, H, hbw⟩ := hrel
    have hz := hbw.size
    by_cases hlt2 : m < ps.length
    · obtain ⟨b2, o2, rfl, hbl2, hcell2⟩ := hcP (by omega)
      obtain ⟨d0, d1⟩ := hcell2 m hlt2
      have e0 := (hbw.cell (p := ⟨b2, o2 + m * 2, none⟩) hbl2).trans d0
      have e1 := (hbw.cell (p := ⟨b2, o2 + m * 2 + 1, none⟩) hbl2).trans d1
      have hb1 := hideIt (hbw.alloc hz (.cells #[.int .i64 ps[m].at_, .int .i64 ps[m].val] 153))
      clear d0 d1 hcell2 hcP
      by_cases q : seB ps[m] = true
      · have Q := hideIt q
        clear q
        go_wp2_with (go_at_call 120; refine (isWrite_any ps[m] _).mono ?_; rw [Q.out]; rintro e w' ⟨rfl, hw'⟩)
        have hw2 := hb1.out.trans (hw'.mono (by simp; omega))
        clear hb1 hw'
        go_roundw
        case rel =>
          refine ⟨m + 1, by omega, by go_num, fun j h a => ?_, hw2⟩
          by_cases e : j = m
          · subst e; exact Q.out
          · exact H.out j h (by omega)
        case measure => simp [intOf]; omega
      · have Q := hideIt (show seB ps[m] = false by simpa using q)
        have E := hideIt (sesB_not hlt2 Q.out)
        clear q
        go_wp2_with (go_at_call 120; refine (isWrite_any ps[m] _).mono ?_; rw [Q.out]; rintro e w' ⟨rfl, hw'⟩)
        have hw2 := hb1.out.trans (hw'.mono (by simp; omega))
        go_ret
        exact ⟨ret_bool E.out.symm, hw2⟩
    · have E := hideIt (sesB_mk (fun j h => H.out j h (by omega)))
      go_wp2
      go_ret
      exact ⟨ret_bool E.out.symm, hbw⟩

set_option maxHeartbeats 4000000 in
theorem implBlkOK_any (v : Value) (ws : List Int) (ps : List Se) (w : World) (h : RdBlk w v ws ps) (hw : ws.length ≤ 1048576) (hp : ps.length ≤ 1048576) :
    Calls Tryz.prog 74 #[v] w fun e w' => e = .returned (.bool (blkB ws ps)) ∧ Below w.heap.size w w' := by
  obtain ⟨vW, vP, rfl, h1, h2⟩ := h
  obtain ⟨aW, cW, rfl, _, hcW⟩ := h1.shape
  obtain ⟨aP, cP, rfl, _, hcP⟩ := h2.shape
  have H1 := hideIt h1
  have H2 := hideIt h2
  clear h1 h2 hcW hcP
  have hb0 : Below w.heap.size w (w.alloc (.cells #[.slice aW ws.length cW, .slice aP ps.length cP] 34)) := (Below.refl _ _).alloc (Nat.le_refl _) _
  have HB := hideIt hb0
  by_cases c1 : ws.length = 32
  case neg =>
    have E := hideIt (blkB_len1 (ps := ps) c1)
    have c1' : ((ws.length : Int) == 32) = false := by rw [beq_eq_false_iff_ne]; omega
    clear c1
    go_enter Tryz.func74, Tryz.ntmps74
    go_wp2
    go_ret
    exact ⟨ret_bool E.out.symm, HB.out⟩
  have c1n : ((ws.length : Int) == 32) = true := by simp; omega
  have C1 := hideIt c1
  clear c1
  by_cases c2 : 400 < ps.length
  · have E := hideIt (blkB_len2 (ws := ws) c2)
    have c2' : decide ((ps.length : Int) ≤ 400) = false := by simp; omega
    go_enter Tryz.func74, Tryz.ntmps74
    go_wp2
    go_ret
    exact ⟨ret_bool E.out.symm, HB.out⟩
  by_cases c3 : wordsB ws = true
  case neg =>
    have c3' : wordsB ws = false := by simpa using c3
    obtain ⟨k, hk, hkf⟩ := wordsB_ex c3'
    have E := hideIt (blkB_w (ps := ps) hk hkf)
    have W0 := hideIt c3'
    clear c3 c3' hkf hk
    go_enter Tryz.func74, Tryz.ntmps74
    go_wp2_with (go_at_call 115; refine (everyWord_any _ ws _ (Rd.below H1.out HB.out) (by omega)).mono ?_; rw [W0.out]; rintro e w' ⟨rfl, rfl⟩)
    go_ret
    exact ⟨ret_bool E.out.symm, HB.out⟩
  have HW := hideIt (wordsB_true c3)
  have W1 := hideIt c3
  clear c3
  cases c4 : sesB ps with
  | true =>
    have E := hideIt (blkB_mk C1.out (by omega) HW.out (fun j h => seB_true (sesB_true c4 j h)))
    have W2 := hideIt c4
    clear c4
    go_enter Tryz.func74, Tryz.ntmps74
    go_wp2_with (first | (go_at_call 115; refine (everyWord_any _ ws _ (Rd.below H1.out HB.out) (by omega)).mono ?_; rw [W1.out]; rintro e w' ⟨rfl, rfl⟩) | (go_at_call 119; refine (everyWrite_any _ ps _ (Rd.below H2.out HB.out) (by omega)).mono ?_; rw [W2.out]; rintro e w' ⟨rfl, hw'⟩))
    go_ret
    exact ⟨ret_bool E.out.symm, HB.out.trans (hw'.mono (by simp))⟩
  | false =>
    obtain ⟨k, hk, hkf⟩ := sesB_ex c4
    have E := hideIt (show blkB ws ps = false from seB_false hkf (blkB_a (ws := ws) hk) (blkB_v (ws := ws) hk))
    have W2 := hideIt c4
    clear c4 hk hkf
    go_enter Tryz.func74, Tryz.ntmps74
    go_wp2_with (first | (go_at_call 115; refine (everyWord_any _ ws _ (Rd.below H1.out HB.out) (by omega)).mono ?_; rw [W1.out]; rintro e w' ⟨rfl, rfl⟩) | (go_at_call 119; refine (everyWrite_any _ ps _ (Rd.below H2.out HB.out) (by omega)).mono ?_; rw [W2.out]; rintro e w' ⟨rfl, hw'⟩))
    go_ret
    exact ⟨ret_bool E.out.symm, HB.out.trans (hw'.mono (by simp))⟩
end Go.Proofs.YtlgghookekokaaaGreatDoor

namespace Go.Proofs.YtlgghookekokaaaGreatDoor

theorem Dg.many {n m : Nat} {ds : List Nat} (h : Dg n m ds) (hm : 0 < m) : ds.length < (digs n).length := by
  rw [h.eq, digs_pos hm]; simp; omega
def unpC (n : Int) : Int := if goodN n = true then 0 else 3
theorem unp_bad {n : Int} (h : goodN n = false) : unpS n = ⟨#[]⟩ ∧ unpC n = 3 := by unfold unpS unpC; rw [h]; exact ⟨rfl, rfl⟩
theorem unp_many {n : Nat} {m : Nat} {ds : List Nat} (h : Dg n m ds) (hm : 0 < m) (h6 : 6 ≤ ds.length) : goodN (n : Int) = false := decide_eq_false (fun x => by have := h.many hm; have := x.2.2; simp only [Int.toNat_natCast] at this; omega)
theorem unp_done {n : Nat} {ds : List Nat} (h : Dg n 0 ds) (hn : 0 < n) (h6 : ds.length ≤ 6) : unpS (n : Int) = bytesOf ds ∧ unpC (n : Int) = 0 := by
  have g : goodN (n : Int) = true := decide_eq_true ⟨by omega, by rw [Int.toNat_natCast, h.done]; exact fun d x => (h.ok d x).1, by rw [Int.toNat_natCast, h.done]; exact h6⟩
  unfold unpS unpC
  rw [if_pos g, if_pos g, Int.toNat_natCast, h.done]
  exact ⟨rfl, rfl⟩
end Go.Proofs.YtlgghookekokaaaGreatDoor

namespace Go.Proofs.YtlgghookekokaaaGreatDoor
open Go.RowKit

theorem ret_si {a b : ByteArray} {c d : Int} (h : a = b) (k : c = d) : Ending.returned (.tuple #[.string a, .int .i64 c]) = .returned (.tuple #[.string b, .int .i64 d]) := by rw [h, k]
end Go.Proofs.YtlgghookekokaaaGreatDoor

namespace Go.Proofs.YtlgghookekokaaaGreatDoor
open Go.RowKit

/-- The updates of an inode: the code, and the list. -/
def iuC (i : Int) (x : Ino) : Int := if 0 ≤ i ∧ i ≤ 15 then (if inoB x = true then 0 else 1) else 4
def iuL (i : Int) (x : Ino) : List Se := if 0 ≤ i ∧ i ≤ 15 then (if inoB x = true then wrL i x 8 else []) else []
theorem iu_cases (i : Int) (x : Ino) : (¬ (0 ≤ i ∧ i ≤ 15) ∧ iuC i x = 4 ∧ iuL i x = []) ∨ ((0 ≤ i ∧ i ≤ 15) ∧ inoB x = false ∧ iuC i x = 1 ∧ iuL i x = []) ∨ ((0 ≤ i ∧ i ≤ 15) ∧ inoB x = true ∧ iuC i x = 0 ∧ iuL i x = wrL i x 8) := by
  unfold iuC iuL
  by_cases h : 0 ≤ i ∧ i ≤ 15
  · cases q : inoB x
    · exact .inr (.inl ⟨h, rfl, by rw [if_pos h, if_neg (by decide)], by rw [if_pos h, if_neg (by decide)]⟩)
    · exact .inr (.inr ⟨h, rfl, by rw [if_pos h, if_pos rfl], by rw [if_pos h, if_pos rfl]⟩)
  · exact .inl ⟨h, by rw [if_neg h], by rw [if_neg h]⟩
end Go.Proofs.YtlgghookekokaaaGreatDoor

namespace Go.Proofs.YtlgghookekokaaaGreatDoor
open Go.RowKit

/-- The first words from a place on. -/
def ufL (at_ : Int) (zs : List Int) (k : Nat) : List Se := (List.range k).map (fun j : Nat => ⟨at_ + (j : Int), zs.getD j 0⟩)
theorem ufL_len (a : Int) (zs : List Int) (k : Nat) : (ufL a zs k).length = k := by simp [ufL]
theorem ufL_succ (a : Int) (zs : List Int) (k : Nat) (h : k < zs.length) : ufL a zs (k + 1) = ufL a zs k ++ [⟨a + (k : Int), zs[k]⟩] := by
  unfold ufL; rw [List.range_succ, List.map_append]
  simp [List.getD_eq_getElem?_getD, List.getElem?_eq_getElem h]

set_option maxRecDepth 100000 in
set_option maxHeartbeats 4000000 in
theorem updatesFrom_any (a : Int) (v : Value) (zs : List Int) (w : World) (h : RdI w v zs) (hn : zs.length ≤ 64) (ha : 0 ≤ a ∧ a ≤ 1000) :
    Calls Tryz.prog 54 #[.int .i64 a, v] w fun e w' => ∃ v', e = .returned v' ∧ Row w' 47 2 w.heap.size w'.heap.size v' (ufL a zs zs.length).length (ses (ufL a zs zs.length)) ∧ Below w.heap.size w w' := by
  obtain ⟨aU, cU, rfl, _, hcU⟩ := h.shape
  have HU := hideIt hcU
  obtain ⟨ha0, ha1⟩ := ha
  clear h hcU
  go_enter Tryz.func54, Tryz.ntmps54
  go_wp2
  go_loopw [5, 6, 7, 10] (fun vL _ _ i wr => ∃ m : Nat, m ≤ zs.length ∧ i = .int .i64 m ∧ Hid (UpI w wr vL (ufL a zs m)) ∧ w.heap.size ≤ wr.heap.size) (fun _ _ _ i _ => zs.length - (intOf i).toNat)
  case atStart => exact ⟨0, by omega, rfl, ⟨World.ownsRow_nil _ _ _ _, Below.refl _ _⟩, Nat.le_refl _⟩
  case round =>
    obtain ⟨m, hm, rfl, I, hz⟩ := hrel
    by_cases hlt : m < zs.length
    · obtain ⟨b, o, rfl, hbl, hcell⟩ := HU.out (by omega)
      have e0 := (I.out.b.cell (p := ⟨b, o + m, none⟩) hbl).trans (hcell m hlt)
      have m0 : (0 : Int) ≤ (m : Int) := by omega
      have m1 : (m : Int) < (zs.length : Int) := by omega
      have NX := hideIt (ufL_succ a zs m hlt)
      have hle : (ufL a zs m).length ≤ 64 := by rw [ufL_len]; omega
      clear hcell
      generalize zs[m] = x at *
      obtain ⟨wb, hwb⟩ : ∃ wb : World, wb = wr.alloc (.cells #[.int .i64 (a + (m : Int)), .int .i64 x] 47) := ⟨_, rfl⟩
      have IB : Hid (UpI w wb u5 (ufL a zs m)) := by rw [hwb]; exact I.out.below ((Below.refl _ _).alloc (Nat.le_refl _) _)
      have RB : Hid (Rd wb 2 (.slice (some ⟨wr.heap.size, 0, none⟩) 1 1) 1 (ses [⟨a + (m : Int), x⟩])) := by rw [hwb]; exact rd_upd wr _ _
      have hzb := IB.out.z
      subst hwb
      go_wp2_with (first
        | (at_builtin; refine wpList_append_rd _ rfl (.tmp 15) (.tmp 21) 39 rfl w.heap.size 47 (.agg #[.int .i64 0, .int .i64 0]) 2 16 Tryz.underlying39 infoUp rfl (by decide) _ _ _ rfl IB.out.l _ 1 _ rfl RB.out (ses_ones _) (by simp [maxLen]; omega) (by omega) (by omega) ?_))
      intro vN wN hownN hgrN
      have G := hideIt (IB.out.grow [⟨a + (m : Int), x⟩] hownN hgrN)
      rw [← NX.out] at G
      have hzN := G.out.z
      clear hownN hgrN IB RB I
      go_wp2
      go_roundw
      case rel => exact ⟨m + 1, by omega, by go_num, G, by omega⟩
      case measure => simp [intOf]; omega
    · obtain rfl : m = zs.length := by omega
      obtain ⟨-, aL, cL, hvL, -⟩ := (own_block I.out.l).rd
      subst hvL
      go_wp2
      go_ret
      exact ⟨_, rfl, own_block I.out.l, I.out.b⟩
end Go.Proofs.YtlgghookekokaaaGreatDoor

namespace Go.Proofs.YtlgghookekokaaaGreatDoor
open Go.RowKit

theorem arr11_from (b : Nat) (w : World) : (Instr.sliceAt 88 (.pointer (some ⟨b, 0, none⟩)) (some (.int .i64 3)) none none).run Tryz.prog w = .ok (.slice (some ⟨b, 3, none⟩) 8 8) w := by
  have al : Tryz.prog.arrayLen 88 = 11 := by kernel_rfl
  rw [run_sliceAt_array_l w 88 ⟨b, 0, none⟩ (by kernel_rfl) .i64 3 (by omega) (by rw [al]; omega), al]
  have sz : (sizeOf (Tryz.prog.elem 88)).run Tryz.prog w = .ok 1 w := by kernel_rfl
  rw [sz]
  simp [Result.andThen, slicedAt, Addr.add]
theorem arr11_all (b : Nat) (w : World) : (Instr.sliceAt 88 (.pointer (some ⟨b, 0, none⟩)) none none none).run Tryz.prog w = .ok (.slice (some ⟨b, 0, none⟩) 11 11) w := by
  have al : Tryz.prog.arrayLen 88 = 11 := by kernel_rfl
  rw [run_sliceAt_array_all w 88 ⟨b, 0, none⟩ (by kernel_rfl), al]
  have sz : (sizeOf (Tryz.prog.elem 88)).run Tryz.prog w = .ok 1 w := by kernel_rfl
  rw [sz]
  simp [Result.andThen, slicedAt, Addr.add]
theorem map_all (b : Nat) (w : World) : (Instr.sliceAt 42 (.pointer (some ⟨b, 3, none⟩)) none none none).run Tryz.prog w = .ok (.slice (some ⟨b, 3, none⟩) 8 8) w := by
  have al : Tryz.prog.arrayLen 42 = 8 := by kernel_rfl
  rw [run_sliceAt_array_all w 42 ⟨b, 3, none⟩ (by kernel_rfl), al]
  have sz : (sizeOf (Tryz.prog.elem 42)).run Tryz.prog w = .ok 1 w := by kernel_rfl
  rw [sz]
  simp [Result.andThen, slicedAt, Addr.add]
/-- An inode's words, ahead of its map's. -/
def preC (x : Ino) : List Value := [.int .i64 x.kind, .int .i64 x.size, .int .i64 x.links, .int .i64 0, .int .i64 0, .int .i64 0, .int .i64 0, .int .i64 0, .int .i64 0, .int .i64 0, .int .i64 0]
def mapC (x : Ino) : List Value := [.int .i64 x.m0, .int .i64 x.m1, .int .i64 x.m2, .int .i64 x.m3, .int .i64 x.m4, .int .i64 x.m5, .int .i64 x.m6, .int .i64 x.m7]
theorem splice_ino (x : Ino) : splice (preC x) 3 (mapC x) = x.cs := rfl
theorem mapC_one (x : Ino) : ∀ v ∈ mapC x, v.oneCell' = true := by
  intro v hv
  simp [mapC] at hv
  rcases hv with rfl | rfl | rfl | rfl | rfl | rfl | rfl | rfl <;> rfl
theorem mapC_at (x : Ino) (j : Nat) (v : Value) (h : (mapC x)[j]? = some v) : x.cs[3 + j]? = some v := by
  have hj : j < 8 := by
    have := (List.getElem?_eq_some_iff.1 h).1
    exact this
  rcases (show j = 0 ∨ j = 1 ∨ j = 2 ∨ j = 3 ∨ j = 4 ∨ j = 5 ∨ j = 6 ∨ j = 7 by omega) with rfl | rfl | rfl | rfl | rfl | rfl | rfl | rfl <;> exact h
theorem ns_cs (x : Ino) : ints x.ns = x.cs := rfl
theorem rd_ns {x : Ino} {w : World} {b : Nat} {t : TypeId} (h : w.heap[b]? = some (.cells x.cs.toArray t (0, 0))) : RdI w (.slice (some ⟨b, 0, none⟩) 11 11) x.ns := by
  refine ⟨by rw [ints_len, Nat.mul_one], some ⟨b, 0, none⟩, 11, rfl, ⟨Nat.le_refl _, fun e => by cases e⟩, fun _ => ⟨b, 0, rfl, (Array.getElem?_eq_some_iff.1 h).1, fun j hj => ?_⟩⟩
  rw [Nat.zero_add, ns_cs]
  exact (eight_at (xs := x.cs) h j).1
theorem uf_wr (i : Int) (x : Ino) : ufL (48 + 12 * i) x.ns x.ns.length = wrL i x 8 := by
  have e1 : x.ns.length = 11 := rfl
  rw [e1]
  simp [ufL, wrL, List.range_succ, Ino.ns, Ino.map]

theorem sz3 : (Tryz.prog.info? 3).map (·.size) = some 1 := by kernel_rfl

set_option maxRecDepth 100000 in
set_option maxHeartbeats 4000000 in
theorem implInodeUpdates_any (i : Int) (x : Ino) (w : World) (hT : TS w) (hE : ED w) (hr : x.R) :
    Calls Tryz.prog 11 #[.int .i64 i, x.v] w fun e w' => ∃ v', e = .returned (.tuple #[v', .int .i64 (iuC i x)]) ∧ Row w' 47 2 w.heap.size w'.heap.size v' (iuL i x).length (ses (iuL i x)) ∧ Below w.heap.size w w' := by
  have hv : x.v = .agg x.cs.toArray := rfl
  have BW : Hid (Below w.heap.size w (w.alloc (.cells x.cs.toArray 44))) := (Below.refl _ _).alloc (Nat.le_refl _) _
  have CA : Hid (∀ w', Below (w.alloc (.cells x.cs.toArray 44)).heap.size (w.alloc (.cells x.cs.toArray 44)) w' → ∀ j, w'.cell? ⟨w.heap.size, j, none⟩ = x.cs[j]?) := fun w' hb j => by
    have : w'.heap[w.heap.size]? = some (.cells x.cs.toArray 44 (0, 0)) := (hb.block _ (by simp)).trans (at_new rfl)
    exact (eight_at (xs := x.cs) this j).1
  have T : Hid (TS (w.alloc (.cells x.cs.toArray 44))) := hT.below BW.out
  have TE : Hid (ED (w.alloc (.cells x.cs.toArray 44))) := hE.below BW.out
  have LF := hideIt (fun w1 (h : TS w1) (g : ED w1) => isInode_any x w1 h g hr)
  have hz : w.heap.size < (w.alloc (.cells x.cs.toArray 44)).heap.size := by simp
  obtain ⟨W, hW⟩ : ∃ W, W = w.alloc (.cells x.cs.toArray 44) := ⟨_, rfl⟩
  rw [← hW] at BW CA T TE hz
  rw [hv]
  clear hT hE hr
  rcases iu_cases i x with ⟨c1, e1, e2⟩ | ⟨c1, c2, e1, e2⟩ | ⟨c1, c2, e1, e2⟩
  · rw [e1, e2]
    obtain ⟨k1, k2⟩ := ino_out (i := i) (f := 0) (by omega)
    have K1 := hideIt k1
    have K2 := hideIt k2
    clear e1 e2 c1 k1 k2
    go_enter Tryz.func11, Tryz.ntmps11
    go_wp2_with fail
    rw [← hW]
    clear hW
    refine (implInode_any _ _ _).mono ?_
    rw [K2.out]
    rintro e w' ⟨rfl, hw'⟩
    subst w'
    go_wp2
    go_ret2
    exact ⟨_, rfl, Row.nil _ _ _ _ _, BW.out⟩
  · rw [e1, e2]
    obtain ⟨k1, k2⟩ := ino_in (i := i) (f := 0) (by omega) (by omega)
    have K1 := hideIt k1
    have K2 := hideIt k2
    have C2 := hideIt c2
    clear e1 e2 c1 c2 k1 k2
    go_enter Tryz.func11, Tryz.ntmps11
    go_wp2_with fail
    rw [← hW]
    clear hW
    refine (implInode_any _ _ _).mono ?_
    rw [K1.out, K2.out]
    rintro e w' ⟨rfl, hw'⟩
    subst w'
    obtain ⟨p0, p1, p2, p3, p4, p5, p6, p7, p8, p9, p10⟩ := Ino.all (CA.out W (Below.refl _ _))
    go_wp2_with fail
    refine (LF.out _ T.out TE.out).mono ?_
    rw [C2.out]
    rintro e w1 ⟨rfl, hb⟩
    have B1 := hideIt (below_trans BW.out hb (by omega))
    clear hb p0 p1 p2 p3 p4 p5 p6 p7 p8 p9 p10
    go_wp2
    go_ret2
    exact ⟨_, rfl, Row.nil _ _ _ _ _, B1.out⟩
  · rw [e1, e2]
    obtain ⟨k1, k2⟩ := ino_in (i := i) (f := 0) (by omega) (by omega)
    have K1 := hideIt k1
    have K2 := hideIt k2
    have C2 := hideIt c2
    have UF := hideIt (uf_wr i x)
    have RA := hideIt (show 0 ≤ 48 + 12 * i ∧ 48 + 12 * i ≤ 1000 by omega)
    clear e1 e2 c1 c2 k1 k2
    go_enter Tryz.func11, Tryz.ntmps11
    go_wp2_with fail
    rw [← hW]
    clear hW
    refine (implInode_any _ _ _).mono ?_
    rw [K1.out, K2.out]
    rintro e w' ⟨rfl, hw'⟩
    subst w'
    obtain ⟨p0, p1, p2, p3, p4, p5, p6, p7, p8, p9, p10⟩ := Ino.all (CA.out W (Below.refl _ _))
    go_wp2_with fail
    refine (LF.out _ T.out TE.out).mono ?_
    rw [C2.out]
    rintro e w1 ⟨rfl, hb⟩
    have B1 := hideIt (below_trans BW.out hb (by omega))
    have hz1 : W.heap.size ≤ w1.heap.size := hb.size
    have HB := hideIt hb
    obtain ⟨d0, d1, d2, d3, d4, d5, d6, d7, d8, d9, d10⟩ := Ino.all (CA.out w1 hb)
    clear hb p0 p1 p2 p3 p4 p5 p6 p7 p8 p9 p10
    go_wp2_with fail
    clear d0 d1 d2 d3 d4 d5 d6 d7 d8 d9 d10
    obtain ⟨wb, hwb⟩ : ∃ wb, wb = w1.alloc (.cells (preC x).toArray 88) := ⟨_, rfl⟩
    have HC : Hid (Below w1.heap.size w1 wb) := by rw [hwb]; exact (Below.refl _ _).alloc (Nat.le_refl _) _
    have HZ : w1.heap.size < wb.heap.size := by rw [hwb]; simp
    have HG : Hid (∀ w', Below wb.heap.size wb w' → w'.heap[w1.heap.size]? = some (.cells (preC x).toArray 88 (0, 0))) := fun w' hb => (hb.block _ HZ).trans (by rw [hwb]; exact at_new rfl)
    have HS : Hid (∀ w', Below wb.heap.size wb w' → ∀ j v, (mapC x)[j]? = some v → w'.cell? ((⟨w.heap.size, 3, none⟩ : Addr).add j) = some v) := fun w' hb j v hv => by rw [Addr.add_lit]; exact (CA.out w' (below_trans (below_trans HB.out HC.out hz1) hb (by omega)) (3 + j)).trans (mapC_at x j v hv)
    have HD : Hid (∀ w', Below wb.heap.size wb w' → Below w1.heap.size w1 w') := fun w' hb => below_trans HC.out hb (by omega)
    unfold preC at hwb
    rw [← hwb]
    clear hwb
    have s1 := arr11_from w1.heap.size
    have s2 := map_all w.heap.size
    have s3 := arr11_all w1.heap.size
    go_region_held3 (fun _ => True) (trivial)
      (first
        | (refine step_copy_splice rfl (.tmp 27) (.tmp 29) 28 28 rfl 3 Tryz.underlying28 sz3 _ _ _ _ _ _ rfl rfl w1.heap.size 3 (preC x) 88 (HG.out _ (by repeat (first | exact Below.refl _ _ | refine Below.drew ?_))) (mapC x) rfl (fun _ => ⟨rfl, _, rfl, HS.out _ (by repeat (first | exact Below.refl _ _ | refine Below.drew ?_))⟩) (Nat.le_refl 11) (mapC_one x) w1.heap.size w1 (HD.out _ (by repeat (first | exact Below.refl _ _ | refine Below.drew ?_))) (Nat.le_refl _) ?_; intro w4 hg4 hb4))
    all_goals
      rw [splice_ino] at hg4
      have R4 := hideIt (rd_ns hg4.out)
      have B4 := hideIt (below_trans B1.out hb4 (by omega))
      have hz4 : w1.heap.size ≤ w4.heap.size := hb4.size
      clear hg4 hb4 HG HS HD HC s1 s2
      go_wp2_with fail
      refine (updatesFrom_any _ _ x.ns _ R4.out (show (11 : Nat) ≤ 64 by omega) RA.out).mono ?_
      rw [UF.out]
      rintro e w5 ⟨v5, rfl, hr5, hb5⟩
      obtain ⟨-, aL, cL, hvL, -⟩ := hr5.rd
      subst hvL
      have R5 := hideIt (hr5.wide (by omega : w.heap.size ≤ w4.heap.size) (Nat.le_refl _))
      have B5 := hideIt (below_trans B4.out hb5 (by omega))
      clear hr5 hb5
      go_wp2
      go_ret2
      exact ⟨_, rfl, R5.out, B5.out⟩
end Go.Proofs.YtlgghookekokaaaGreatDoor

namespace Go.Proofs.YtlgghookekokaaaGreatDoor
open Go.RowKit


theorem layW_snoc (ws : List Int) (ps : List St) (p : St) : layW ws (ps ++ [p]) = (layW ws ps).set p.at_.toNat p.val := by simp [layW]
def seenC (ws : List Int) (ps : List St) : Int := if pmB ws ps = true then 0 else 1
def seenZ (ws : List Int) (ps : List St) : List Int := if pmB ws ps = true then layW ws ps else []
theorem seen_not {ws : List Int} {ps : List St} (h : pmB ws ps = false) : seenC ws ps = 1 ∧ seenZ ws ps = [] := by
  unfold seenC seenZ
  rw [h]
  exact ⟨rfl, rfl⟩
theorem seen_ok {ws : List Int} {ps : List St} (h : pmB ws ps = true) : seenC ws ps = 0 ∧ seenZ ws ps = layW ws ps := by
  unfold seenC seenZ
  rw [h]
  exact ⟨rfl, rfl⟩

set_option maxRecDepth 100000 in
set_option maxHeartbeats 4000000 in
theorem implPmSeen_any (v : Value) (ws : List Int) (ps : List St) (w : World) (h : RdPm w v ws ps) (hw : ws.length ≤ 1048576) (hp : ps.length ≤ 1048576) :
    Calls Tryz.prog 63 #[v] w fun e w' => ∃ v', e = .returned (.tuple #[v', .int .i64 (seenC ws ps)]) ∧ Row w' 3 1 w.heap.size w'.heap.size v' (seenZ ws ps).length (ints (seenZ ws ps)) ∧ Below w.heap.size w w' := by
  have HR := hideIt h
  obtain ⟨vW, vP, rfl, h1, h2⟩ := h
  have H1 := hideIt h1
  obtain ⟨aW, cW, rfl, _⟩ := h1.shape
  obtain ⟨aP, cP, rfl, _, hcP⟩ := h2.shape
  have HP := hideIt hcP
  clear h1 h2 hcP
  have hb0 : Below w.heap.size w (w.alloc (.cells #[.slice aW ws.length cW, .slice aP ps.length cP] 31)) := (Below.refl _ _).alloc (Nat.le_refl _) _
  by_cases hc : pmB ws ps = true
  · obtain ⟨e1, e2⟩ := seen_ok hc
    rw [e1, e2]
    clear e1 e2
    have OK := hideIt (pmB_in hc)
    go_enter Tryz.func63, Tryz.ntmps63
    go_wp2_with fail
    refine (implPmOK_any _ ws ps _ (HR.out.below hb0) hw hp).mono ?_
    rintro e w1 ⟨rfl, hb1⟩
    have hz1 : w.heap.size + 1 ≤ w1.heap.size := by have := hb1.size; simp at this; omega
    have V0 := (hb1.block w.heap.size (by simp <;> omega)).trans (at_new rfl)
    obtain ⟨x1, x2, x3, x4⟩ := two_cells V0
    have B1 := hideIt (below_trans hb0 hb1 (by simp <;> omega))
    have VH := hideIt V0
    clear hb0 hb1 V0
    go_wp2_with (at_builtin; refine wpList_append_rd _ rfl (.const (.slice none 0 0)) (.tmp 11) 28 rfl w1.heap.size 3 (.int .i64 0) 1 8 Tryz.underlying28 info3 rfl (by decide) _ 0 [] rfl (World.ownsRow_nil _ _ _ _) _ ws.length (ints ws) rfl (Rd.below H1.out B1.out) (ints_one ws) (by simp [maxLen]; omega) (by omega) (Nat.le_refl _) ?_)
    intro v2 w2 hown2 hgr2
    have hown2 : w2.ownsRow w1.heap.size 3 1 v2 ws.length (ints ws) := by simpa using hown2
    obtain ⟨aW2, cW2, rfl⟩ := RdI.form (own_block hown2).rd rfl
    have hz2 : w1.heap.size ≤ w2.heap.size := hgr2.size
    have B2 := B1.out.grown hgr2 (by omega) (fun k hk => by cases hk)
    have V0 := (hgr2.block w.heap.size (by omega) (by simp [Value.ownBlock])).trans VH.out
    obtain ⟨z1, z2, z3, z4⟩ := two_cells V0
    have START := hideIt (And.intro (own_block hown2) B2)
    clear x1 x2 x3 x4 hown2 hgr2 B2 V0
    go_wp2
    go_loopw [6, 16] (fun _ i wr => ∃ m : Nat, m ≤ ps.length ∧ i = .int .i64 m ∧ Row wr 3 1 w1.heap.size w2.heap.size (.slice aW2 ws.length cW2) ws.length (ints (layW ws (ps.take m))) ∧ Below w.heap.size w wr ∧ w2.heap.size ≤ wr.heap.size) (fun _ i _ => ps.length - (intOf i).toNat)
    case atStart => exact ⟨0, by omega, rfl, START.out.1, START.out.2, Nat.le_refl _⟩
    case round =>
      obtain ⟨m, hm, rfl, hrow, hb, hz⟩ := hrel
      by_cases hlt : m < ps.length
      · obtain ⟨b, o, rfl, hbl, hcell⟩ := HP.out (by omega)
        obtain ⟨e0, e1, e2⟩ := hcell m hlt
        have d0 := (hb.cell (p := ⟨b, o + m * 3, none⟩) hbl).trans e0
        have d1 := (hb.cell (p := ⟨b, o + m * 3 + 1, none⟩) hbl).trans e1
        have d2 := (hb.cell (p := ⟨b, o + m * 3 + 2, none⟩) hbl).trans e2
        obtain ⟨q0, q1⟩ := OK.out m hlt
        obtain ⟨_, aw', cw', ew', _, hcw⟩ := hrow.rd
        cases ew'
        obtain ⟨bw, ow, rfl, hblw, _⟩ := hcw (by omega)
        obtain ⟨rfl, hb1, _, _, hfrw, hclw⟩ := (hrow.alloc hz (.cells #[.int .i64 ps[m].at_, .int .i64 ps[m].val, .bool ps[m].fl] 143)).at
        have hj : ps[m].at_.toNat < (layW ws (ps.take m)).length := by rw [layW_len]; omega
        have g0 := hfrw ps[m].at_.toNat
        have g1 := (hclw ps[m].at_.toNat (by omega)).trans (ints_at _ _ hj)
        have F : Hid (Row ((wr.setCell ⟨bw, ps[m].at_.toNat, none⟩ (.int .i64 ps[m].val)).alloc (.cells #[.int .i64 ps[m].at_, .int .i64 ps[m].val, .bool ps[m].fl] 143)) 3 1 w1.heap.size w2.heap.size (.slice (some ⟨bw, 0, none⟩) ws.length cW2) ws.length (ints (layW ws (ps.take (m + 1))))) := by
          rw [take_snoc ps m hlt, layW_snoc, ← ints_set]
          exact (hrow.stored _ _).alloc (by simp; omega) _
        have G := hideIt ((hb.setCell (p := ⟨bw, ps[m].at_.toNat, none⟩) (by simp only; omega) (.int .i64 ps[m].val)).alloc (by simp; omega) (.cells #[.int .i64 ps[m].at_, .int .i64 ps[m].val, .bool ps[m].fl] 143))
        clear hrow hcell e0 e1 e2 hcw hfrw hclw
        go_wp2
        go_roundw
        case rel => exact ⟨m + 1, by omega, by go_num, F.out, G.out, by simp; omega⟩
        case measure => simp [intOf]; omega
      · have e : m = ps.length := by omega
        subst e
        have R := hideIt hrow
        clear hrow
        go_wp2
        go_ret2
        refine ⟨_, rfl, ?_, hb⟩
        have := R.out
        rw [List.take_length] at this
        rw [layW_len]
        exact this.wide (by omega) hz
  · have hc' : pmB ws ps = false := by simpa using hc
    clear hc
    obtain ⟨e1, e2⟩ := seen_not hc'
    rw [e1, e2]
    clear e1 e2
    go_enter Tryz.func63, Tryz.ntmps63
    go_wp2_with fail
    refine (implPmOK_any _ ws ps _ (HR.out.below hb0) hw hp).mono ?_
    rintro e w1 ⟨rfl, hb1⟩
    have B1 := hideIt (below_trans hb0 hb1 (by simp <;> omega))
    clear hb0 hb1
    go_wp2
    go_ret2
    exact ⟨_, rfl, Row.nil _ _ _ _ _, B1.out⟩
end Go.Proofs.YtlgghookekokaaaGreatDoor

namespace Go.Proofs.YtlgghookekokaaaGreatDoor
open Go.ChangeShapes Go.WideShapes Go.ChangeAt Go.RowKit Go.Joins

theorem Below.drewN'' {B : Nat} {a w : World} (h : Below B a w) (n : Nat) : Below B a (w.drewN n) := by
  induction n with
  | zero => exact h
  | succ n ih => exact ⟨ih.os, ih.tape, ih.output, ih.size, ih.block⟩

section
variable {H : Type} {enc : TypeId × Value → H} {W : World} {sp : Nat → Bool} {held : Bool} {fuel : Nat} {v : Value} {y : DataW H × List MemPlace}
end
end Go.Proofs.YtlgghookekokaaaGreatDoor

