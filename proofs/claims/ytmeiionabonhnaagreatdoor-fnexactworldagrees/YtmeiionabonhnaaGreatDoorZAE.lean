/- Several texts laid together: Word, PiA, PiB, PiD. -/
import Derived.Test.YtmeiionabonhnaaGreatDoorZAA
import Derived.Test.YtmeiionabonhnaaGreatDoorZAD
import Derived.Test.YtmeiionabonhnaaGreatDoorZAC
import Derived.Laws.CopyRow
import Derived.Laws.CopyOwn
import Derived.Deep.RegionHeld3
import Derived.Laws.OwnMore
namespace Go.Proofs.YtmeiionabonhnaaGreatDoor
open Go.RowKit
def wordB (n : Int) : Bool := decide (0 ≤ n ∧ n < 1099511627776)
def placeB (n : Int) : Bool := decide (0 ≤ n ∧ n < 336)
def secB (n : Int) : Bool := decide (0 ≤ n ∧ n < 32)
theorem secB_true {n : Int} (h : secB n = true) : 0 ≤ n ∧ n < 32 := of_decide_eq_true h
theorem placeB_true {n : Int} (h : placeB n = true) : 0 ≤ n ∧ n < 336 := of_decide_eq_true h
theorem isWord_any (n : Int) (w : World) : Calls Tryz.prog 124 #[.int .i64 n] w fun e w' => e = .returned (.bool (wordB n)) ∧ w' = w := by
  by_cases h0 : 0 ≤ n
  · by_cases h1 : n < 1099511627776
    · have e : wordB n = true := decide_eq_true ⟨h0, h1⟩
      rw [e]; clear e
      go_enter Tryz.func124, Tryz.ntmps124
      go_wp2
      go_ret
      exact ⟨rfl, rfl⟩
    · have e : wordB n = false := decide_eq_false (fun h => h1 h.2)
      rw [e]; clear e
      go_enter Tryz.func124, Tryz.ntmps124
      go_wp2
      go_ret
      exact ⟨rfl, rfl⟩
  · have e : wordB n = false := decide_eq_false (fun h => h0 h.1)
    rw [e]; clear e
    go_enter Tryz.func124, Tryz.ntmps124
    go_wp2
    go_ret
    exact ⟨rfl, rfl⟩
theorem isPlace_any (n : Int) (w : World) : Calls Tryz.prog 283 #[.int .i64 n] w fun e w' => e = .returned (.bool (placeB n)) ∧ w' = w := by
  by_cases h0 : 0 ≤ n
  · by_cases h1 : n < 336
    · have e : placeB n = true := decide_eq_true ⟨h0, h1⟩
      rw [e]; clear e
      go_enter Tryz.func283, Tryz.ntmps283
      go_wp2
      go_ret
      exact ⟨rfl, rfl⟩
    · have e : placeB n = false := decide_eq_false (fun h => h1 h.2)
      rw [e]; clear e
      go_enter Tryz.func283, Tryz.ntmps283
      go_wp2
      go_ret
      exact ⟨rfl, rfl⟩
  · have e : placeB n = false := decide_eq_false (fun h => h0 h.1)
    rw [e]; clear e
    go_enter Tryz.func283, Tryz.ntmps283
    go_wp2
    go_ret
    exact ⟨rfl, rfl⟩
theorem isSector_any (n : Int) (w : World) : Calls Tryz.prog 268 #[.int .i64 n] w fun e w' => e = .returned (.bool (secB n)) ∧ w' = w := by
  by_cases h0 : 0 ≤ n
  · by_cases h1 : n < 32
    · have e : secB n = true := decide_eq_true ⟨h0, h1⟩
      rw [e]; clear e
      go_enter Tryz.func268, Tryz.ntmps268
      go_wp2
      go_ret
      exact ⟨rfl, rfl⟩
    · have e : secB n = false := decide_eq_false (fun h => h1 h.2)
      rw [e]; clear e
      go_enter Tryz.func268, Tryz.ntmps268
      go_wp2
      go_ret
      exact ⟨rfl, rfl⟩
  · have e : secB n = false := decide_eq_false (fun h => h0 h.1)
    rw [e]; clear e
    go_enter Tryz.func268, Tryz.ntmps268
    go_wp2
    go_ret
    exact ⟨rfl, rfl⟩
def inB (n lo hi : Int) : Bool := decide (lo ≤ n ∧ n ≤ hi)
theorem l01In_any (n lo hi : Int) (w : World) : Calls Tryz.prog 125 #[.int .i64 n, .int .i64 lo, .int .i64 hi] w fun e w' => e = .returned (.bool (inB n lo hi)) ∧ w' = w := by
  by_cases h0 : lo ≤ n
  · by_cases h1 : n ≤ hi
    · have e : inB n lo hi = true := decide_eq_true ⟨h0, h1⟩
      rw [e]; clear e
      go_enter Tryz.func125, Tryz.ntmps125
      go_wp2
      go_ret
      exact ⟨rfl, rfl⟩
    · have e : inB n lo hi = false := decide_eq_false (fun h => h1 h.2)
      rw [e]; clear e
      go_enter Tryz.func125, Tryz.ntmps125
      go_wp2
      go_ret
      exact ⟨rfl, rfl⟩
  · have e : inB n lo hi = false := decide_eq_false (fun h => h0 h.1)
    rw [e]; clear e
    go_enter Tryz.func125, Tryz.ntmps125
    go_wp2
    go_ret
    exact ⟨rfl, rfl⟩
theorem inB_word (n : Int) : inB n 0 1099511627775 = wordB n := by
  unfold inB wordB
  rw [decide_eq_decide]
  omega
theorem inB_place (n : Int) : inB n 0 335 = placeB n := by
  unfold inB placeB
  rw [decide_eq_decide]
  omega
theorem inB_sec (n : Int) : inB n 0 31 = secB n := by
  unfold inB secB
  rw [decide_eq_decide]
  omega
theorem l01InSec_any (n : Int) (w : World) : Calls Tryz.prog 125 #[.int .i64 n, .int .i64 0, .int .i64 31] w fun e w' => e = .returned (.bool (secB n)) ∧ w' = w := by
  rw [← inB_sec]
  exact l01In_any n 0 31 w
theorem l01InPlace_any (n : Int) (w : World) : Calls Tryz.prog 125 #[.int .i64 n, .int .i64 0, .int .i64 335] w fun e w' => e = .returned (.bool (placeB n)) ∧ w' = w := by
  rw [← inB_place]
  exact l01In_any n 0 335 w
theorem l01Word_any (n : Int) (w : World) : Calls Tryz.prog 67 #[.int .i64 n] w fun e w' => e = .returned (.bool (wordB n)) ∧ w' = w := by
  have E := hideIt (inB_word n)
  go_enter Tryz.func67, Tryz.ntmps67
  go_wp2_with fail
  refine (l01In_any n 0 1099511627775 _).mono ?_
  rw [E.out]
  rintro e w' ⟨rfl, rfl⟩
  go_wp2
  go_ret
  exact ⟨rfl, rfl⟩
def wordsB (zs : List Int) : Bool := decide (∀ k (h : k < zs.length), wordB zs[k] = true)
theorem wordsB_true {zs : List Int} (h : wordsB zs = true) : ∀ k (h : k < zs.length), wordB zs[k] = true := of_decide_eq_true h
theorem wordsB_mk {zs : List Int} (h : ∀ k (h : k < zs.length), wordB zs[k] = true) : wordsB zs = true := decide_eq_true h
theorem wordsB_not {zs : List Int} {k : Nat} (hk : k < zs.length) (h : wordB zs[k] = false) : wordsB zs = false := decide_eq_false (fun x => by have := x k hk; rw [h] at this; cases this)
theorem wordsB_ex {zs : List Int} (h : wordsB zs = false) : ∃ k, ∃ h : k < zs.length, wordB zs[k] = false := by
  apply Classical.byContradiction
  intro hn
  have : wordsB zs = true := wordsB_mk (fun k hk => by
    cases e : wordB zs[k] with
    | true => rfl
    | false => exact absurd ⟨k, hk, e⟩ hn)
  rw [h] at this
  cases this
end Go.Proofs.YtmeiionabonhnaaGreatDoor

namespace Go.Proofs.YtmeiionabonhnaaGreatDoor
open Go.RowKit
def Ino.ns (x : Ino) : List Int := [x.kind, x.size, x.links, x.m0, x.m1, x.m2, x.m3, x.m4, x.m5, x.m6, x.m7]
def tiesB (zs : List Int) : Bool := decide (∀ k (h : k < zs.length), tieB zs[k] = true)
def nowsB (zs : List Int) : Bool := decide (∀ k (h : k < zs.length), (zs[k] == 0) = true)
def fileB (x : Ino) : Bool := decide (x.kind = 1) && (decide (1 ≤ x.links ∧ x.links ≤ 24) && (decide (0 ≤ x.size ∧ x.size < 9) && (tiesB (x.map.take x.size.toNat) && nowsB (x.map.drop x.size.toNat))))
theorem tieB_zero : tieB 0 = true := by decide
theorem ino_empty {x : Ino} (h : x.ns = [0, 0, 0, 0, 0, 0, 0, 0, 0, 0, 0]) : inoB x = true := by
  obtain ⟨k, s, l, m0, m1, m2, m3, m4, m5, m6, m7⟩ := x
  simp only [Ino.ns, List.cons.injEq, and_true] at h
  obtain ⟨rfl, rfl, rfl, rfl, rfl, rfl, rfl, rfl, rfl, rfl, rfl⟩ := h
  decide
theorem ino_dir {x : Ino} (h : x.ns = [2, 0, 1, 0, 0, 0, 0, 0, 0, 0, 0]) : inoB x = true := by
  obtain ⟨k, s, l, m0, m1, m2, m3, m4, m5, m6, m7⟩ := x
  simp only [Ino.ns, List.cons.injEq, and_true] at h
  obtain ⟨rfl, rfl, rfl, rfl, rfl, rfl, rfl, rfl, rfl, rfl, rfl⟩ := h
  decide
theorem map_parts {x : Ino} (h0 : 0 ≤ x.size) (h8 : x.size ≤ 8) : mapB x.map x.size = (tiesB (x.map.take x.size.toNat) && nowsB (x.map.drop x.size.toNat)) := by
  rw [Bool.eq_iff_iff, Bool.and_eq_true]
  have hl : x.map.length = 8 := rfl
  have hg : ∀ i (h : i < 8), x.map.getD i 0 = x.map[i]'(by rw [hl]; exact h) := fun i h => by
    rw [List.getD_eq_getElem?_getD, List.getElem?_eq_getElem (by rw [hl]; exact h)]; rfl
  constructor
  · intro h
    have h := mapB_to h
    refine ⟨decide_eq_true fun k hk => ?_, decide_eq_true fun k hk => ?_⟩
    · rw [List.length_take, hl] at hk
      have := h k (by omega)
      rw [hg k (by omega)] at this
      rw [List.getElem_take]
      unfold entB at this
      exact (Bool.and_eq_true _ _ ▸ this : _ ∧ _).1
    · rw [List.length_drop, hl] at hk
      have := h (x.size.toNat + k) (by omega)
      rw [hg _ (by omega)] at this
      rw [List.getElem_drop]
      unfold entB at this
      have := (Bool.and_eq_true _ _ ▸ this : _ ∧ _).2
      rw [Bool.or_eq_true] at this
      rcases this with h1 | h1
      · exact h1
      · have := of_decide_eq_true h1
        omega
  · rintro ⟨h1, h2⟩
    have h1 := of_decide_eq_true h1
    have h2 := of_decide_eq_true h2
    refine mapB_of fun i hi => ?_
    rw [hg i hi]
    unfold entB
    rw [Bool.and_eq_true, Bool.or_eq_true]
    by_cases hs : i < x.size.toNat
    · have := h1 i (by rw [List.length_take, hl]; omega)
      rw [List.getElem_take] at this
      exact ⟨this, .inr (decide_eq_true (by omega))⟩
    · have := h2 (i - x.size.toNat) (by rw [List.length_drop, hl]; omega)
      rw [List.getElem_drop] at this
      have e : x.size.toNat + (i - x.size.toNat) = i := by omega
      simp only [e] at this
      exact ⟨by rw [eq_of_beq this]; exact tieB_zero, .inl this⟩
theorem map_nought {x : Ino} (h0 : x.size = 0) (h : mapB x.map x.size = true) : x.map = [0, 0, 0, 0, 0, 0, 0, 0] := by
  have h := mapB_to h
  have g : ∀ i, i < 8 → x.map.getD i 0 = 0 := fun i hi => by
    have := h i hi
    unfold entB at this
    have := (Bool.and_eq_true _ _ ▸ this : _ ∧ _).2
    rw [Bool.or_eq_true] at this
    rcases this with h1 | h1
    · exact eq_of_beq h1
    · have := of_decide_eq_true h1; omega
  have a0 := g 0 (by omega); have a1 := g 1 (by omega); have a2 := g 2 (by omega); have a3 := g 3 (by omega); have a4 := g 4 (by omega); have a5 := g 5 (by omega); have a6 := g 6 (by omega); have a7 := g 7 (by omega)
  simp [Ino.map] at *
  exact ⟨a0, a1, a2, a3, a4, a5, a6, a7⟩
theorem ino_file {x : Ino} (h0 : ¬ x.ns = [0, 0, 0, 0, 0, 0, 0, 0, 0, 0, 0]) (h1 : ¬ x.ns = [2, 0, 1, 0, 0, 0, 0, 0, 0, 0, 0]) : fileB x = inoB x := by
  by_cases hk : x.kind = 1
  · unfold fileB inoB
    rw [decide_eq_true hk, decide_eq_true (show 0 ≤ x.kind ∧ x.kind ≤ 2 by omega)]
    simp only [Bool.true_and]
    by_cases hs : 0 ≤ x.size ∧ x.size ≤ 8
    · rw [decide_eq_true hs, decide_eq_true (show 0 ≤ x.size ∧ x.size < 9 by omega), ← map_parts hs.1 hs.2]
      have e : kindB x = decide (0 < x.links) := by unfold kindB; rw [if_neg (by omega), if_neg (by omega)]
      rw [e]
      by_cases hl : 1 ≤ x.links ∧ x.links ≤ 24
      · rw [decide_eq_true hl, decide_eq_true (show 0 ≤ x.links ∧ x.links ≤ 24 by omega), decide_eq_true (show 0 < x.links by omega)]; simp
      · rw [decide_eq_false hl]
        by_cases h3 : 0 < x.links
        · rw [decide_eq_false (show ¬ (0 ≤ x.links ∧ x.links ≤ 24) by omega)]; simp
        · rw [decide_eq_false h3]; simp
    · rw [decide_eq_false hs, decide_eq_false (show ¬ (0 ≤ x.size ∧ x.size < 9) by omega)]; simp
  · have e1 : fileB x = false := by unfold fileB; rw [decide_eq_false hk]; rfl
    rw [e1, eq_comm, Bool.eq_false_iff]
    intro e
    unfold inoB at e
    simp only [Bool.and_eq_true, decide_eq_true_eq] at e
    obtain ⟨a, b, c, d, f⟩ := e
    unfold kindB at f
    by_cases k0 : x.kind = 0
    · rw [if_pos k0] at f
      obtain ⟨f1, f2, f3⟩ := of_decide_eq_true f
      apply h0
      simp only [Ino.map, List.cons.injEq, and_true] at f3
      simp [Ino.ns, k0, f1, f2, f3]
    · rw [if_neg k0, if_pos (by omega)] at f
      simp only [Bool.and_eq_true, beq_iff_eq] at f
      have f3 := map_nought f.1 d
      apply h1
      simp only [Ino.map, List.cons.injEq, and_true] at f3
      have k2 : x.kind = 2 := by omega
      simp [Ino.ns, k2, f.1, f.2, f3]
def ED (w : World) : Prop := ∃ t fr, w.heap[0]? = some (.cells #[.int .i64 2, .int .i64 0, .int .i64 1, .int .i64 0, .int .i64 0, .int .i64 0, .int .i64 0, .int .i64 0, .int .i64 0, .int .i64 0, .int .i64 0] t fr)
theorem ED.lt {w : World} (h : ED w) : 0 < w.heap.size := by
  obtain ⟨t, fr, h⟩ := h
  exact (Array.getElem?_eq_some_iff.1 h).1
theorem ED.below {w w' : World} (h : ED w) (hb : Below w.heap.size w w') : ED w' := by
  have hl := h.lt
  obtain ⟨t, fr, h⟩ := h
  exact ⟨t, fr, (hb.block _ hl).trans h⟩
theorem ED.cells {w : World} (h : ED w) : w.cell? ⟨0, 0, none⟩ = some (.int .i64 2) ∧ w.cell? ⟨0, 1, none⟩ = some (.int .i64 0) ∧ w.cell? ⟨0, 2, none⟩ = some (.int .i64 1) ∧ w.cell? ⟨0, 3, none⟩ = some (.int .i64 0) ∧ w.cell? ⟨0, 4, none⟩ = some (.int .i64 0) ∧ w.cell? ⟨0, 5, none⟩ = some (.int .i64 0) ∧ w.cell? ⟨0, 6, none⟩ = some (.int .i64 0) ∧ w.cell? ⟨0, 7, none⟩ = some (.int .i64 0) ∧ w.cell? ⟨0, 8, none⟩ = some (.int .i64 0) ∧ w.cell? ⟨0, 9, none⟩ = some (.int .i64 0) ∧ w.cell? ⟨0, 10, none⟩ = some (.int .i64 0) := by
  obtain ⟨t, fr, h⟩ := h
  simp [World.cell?, h]
theorem isEntry_any (n : Int) (w : World) (hT : TS w) (h0 : -9223372036854775808 ≤ n) (h1 : n ≤ 9223372036854775807) : Calls Tryz.prog 274 #[.int .i64 n] w fun e w' => e = .returned (.bool (tieB n)) ∧ w' = w := by
  have T := hideIt hT
  clear hT
  cases c : tieB n with
  | true =>
    have E := hideIt (tie_in c).2.2
    clear c
    go_enter Tryz.func274, Tryz.ntmps274
    go_wp2_with (go_at_call 232; refine (implTierOf_any _ _ T.out h0 h1).mono ?_; rw [E.out]; rintro e w' ⟨rfl, rfl⟩)
    go_ret
    exact ⟨rfl, rfl⟩
  | false =>
    have E := hideIt (tie_out c).2.2
    clear c
    go_enter Tryz.func274, Tryz.ntmps274
    go_wp2_with (go_at_call 232; refine (implTierOf_any _ _ T.out h0 h1).mono ?_; rw [E.out]; rintro e w' ⟨rfl, rfl⟩)
    go_ret
    exact ⟨rfl, rfl⟩
theorem isNowhere_any (n : Int) (w : World) : Calls Tryz.prog 275 #[.int .i64 n] w fun e w' => e = .returned (.bool (n == 0)) ∧ w' = w := by
  go_enter Tryz.func275, Tryz.ntmps275
  go_wp2
  go_ret
  exact ⟨rfl, rfl⟩
theorem tiesB_mk {zs : List Int} (h : ∀ k (h : k < zs.length), tieB zs[k] = true) : tiesB zs = true := decide_eq_true h
theorem tiesB_not {zs : List Int} {k : Nat} (hk : k < zs.length) (h : tieB zs[k] = false) : tiesB zs = false := decide_eq_false (fun x => by have := x k hk; rw [h] at this; cases this)
theorem nowsB_mk {zs : List Int} (h : ∀ k (h : k < zs.length), (zs[k] == 0) = true) : nowsB zs = true := decide_eq_true h
theorem nowsB_not {zs : List Int} {k : Nat} (hk : k < zs.length) (h : (zs[k] == 0) = false) : nowsB zs = false := decide_eq_false (fun x => by have := x k hk; rw [h] at this; cases this)
set_option maxHeartbeats 2000000 in
theorem everyEntry_any (v : Value) (zs : List Int) (w : World) (h : RdI w v zs) (hn : zs.length ≤ 2147483648) (hT : TS w) (hr : ∀ k (h : k < zs.length), -9223372036854775808 ≤ zs[k] ∧ zs[k] ≤ 9223372036854775807) :
    Calls Tryz.prog 123 #[v, .func (.func 274) #[] #[]] w fun e w' => e = .returned (.bool (tiesB zs)) ∧ w' = w := by
  have T := hideIt hT
  have HR := hideIt hr
  clear hT hr
  obtain ⟨ao, cap, rfl, _, hc⟩ := h.shape
  clear h
  go_enter Tryz.func123, Tryz.ntmps123
  go_wp2
  go_loop [6, 9] (fun _ i => ∃ k : Nat, k ≤ zs.length ∧ i = .int .i64 k ∧ Hid (∀ j (h : j < zs.length), j < k → tieB zs[j] = true)) (fun _ i => zs.length - (intOf i).toNat)
  case atStart => exact ⟨0, by omega, rfl, fun j h a => absurd a (by omega)⟩
  case round =>
    obtain ⟨k, hk, rfl, H⟩ := hrel
    by_cases hlt : k < zs.length
    · obtain ⟨b, o, rfl, hbl, hcell⟩ := hc (by omega)
      have hck := hcell k hlt
      obtain ⟨r0, r1⟩ := HR.out k hlt
      clear hcell hc
      by_cases q : tieB zs[k] = true
      · go_wp2_with (go_at_call 274; refine (isEntry_any _ _ T.out r0 r1).mono ?_; rintro e w' ⟨rfl, rfl⟩)
        go_round
        case rel =>
          refine ⟨k + 1, by omega, by go_num, fun j h a => ?_⟩
          by_cases e : j = k
          · subst e; exact q
          · exact H.out j h (by omega)
        case measure => simp [intOf]; omega
      · have q' : tieB zs[k] = false := by simpa using q
        have E := hideIt (tiesB_not hlt q')
        go_wp2_with (go_at_call 274; refine (isEntry_any _ _ T.out r0 r1).mono ?_; rintro e w' ⟨rfl, rfl⟩)
        go_ret
        exact ⟨ret_bool E.out.symm, rfl⟩
    · have E := hideIt (tiesB_mk (fun j h => H.out j h (by omega)))
      clear H
      go_wp2
      go_ret
      exact ⟨ret_bool E.out.symm, rfl⟩
set_option maxHeartbeats 2000000 in
theorem everyNowhere_any (v : Value) (zs : List Int) (w : World) (h : RdI w v zs) (hn : zs.length ≤ 2147483648) :
    Calls Tryz.prog 123 #[v, .func (.func 275) #[] #[]] w fun e w' => e = .returned (.bool (nowsB zs)) ∧ w' = w := by
  obtain ⟨ao, cap, rfl, _, hc⟩ := h.shape
  clear h
  go_enter Tryz.func123, Tryz.ntmps123
  go_wp2
  go_loop [6, 9] (fun _ i => ∃ k : Nat, k ≤ zs.length ∧ i = .int .i64 k ∧ Hid (∀ j (h : j < zs.length), j < k → (zs[j] == 0) = true)) (fun _ i => zs.length - (intOf i).toNat)
  case atStart => exact ⟨0, by omega, rfl, fun j h a => absurd a (by omega)⟩
  case round =>
    obtain ⟨k, hk, rfl, H⟩ := hrel
    by_cases hlt : k < zs.length
    · obtain ⟨b, o, rfl, hbl, hcell⟩ := hc (by omega)
      have hck := hcell k hlt
      clear hcell hc
      by_cases q : (zs[k] == 0) = true
      · go_wp2_with (go_at_call 275; refine (isNowhere_any _ _).mono ?_; rintro e w' ⟨rfl, rfl⟩)
        go_round
        case rel =>
          refine ⟨k + 1, by omega, by go_num, fun j h a => ?_⟩
          by_cases e : j = k
          · subst e; exact q
          · exact H.out j h (by omega)
        case measure => simp [intOf]; omega
      · have q' : (zs[k] == 0) = false := by simpa using q
        have E := hideIt (nowsB_not hlt q')
        go_wp2_with (go_at_call 275; refine (isNowhere_any _ _).mono ?_; rintro e w' ⟨rfl, rfl⟩)
        go_ret
        exact ⟨ret_bool E.out.symm, rfl⟩
    · have E := hideIt (nowsB_mk (fun j h => H.out j h (by omega)))
      clear H
      go_wp2
      go_ret
      exact ⟨ret_bool E.out.symm, rfl⟩
end Go.Proofs.YtmeiionabonhnaaGreatDoor

namespace Go.Proofs.YtmeiionabonhnaaGreatDoor
open Go.RowKit
theorem mapHead (w : World) (b n : Nat) (hn : n ≤ 8) : (Instr.sliceAt 148 (.pointer (some ⟨b, 3, none⟩)) none (some (.int .i64 (n : Int))) none).run Tryz.prog w = .ok (.slice (some ⟨b, 3, none⟩) n 8) w := by
  have al : Tryz.prog.arrayLen 148 = 8 := by kernel_rfl
  rw [run_sliceAt_array_h w 148 ⟨b, 3, none⟩ (by kernel_rfl) .i64 (n : Int) (by omega) (by rw [al]; omega), al]
  have sz : (sizeOf (Tryz.prog.elem 148)).run Tryz.prog w = .ok 1 w := by kernel_rfl
  rw [sz]
  simp [Result.andThen, slicedAt, Addr.add]
theorem mapTail (w : World) (b n : Nat) (hn : n ≤ 8) : (Instr.sliceAt 148 (.pointer (some ⟨b, 3, none⟩)) (some (.int .i64 (n : Int))) none none).run Tryz.prog w = .ok (.slice (some (if n = 8 then ⟨b, 3, none⟩ else ⟨b, 3 + n, none⟩)) (8 - n) (8 - n)) w := by
  have al : Tryz.prog.arrayLen 148 = 8 := by kernel_rfl
  rw [run_sliceAt_array_l w 148 ⟨b, 3, none⟩ (by kernel_rfl) .i64 (n : Int) (by omega) (by rw [al]; omega), al]
  have sz : (sizeOf (Tryz.prog.elem 148)).run Tryz.prog w = .ok 1 w := by kernel_rfl
  rw [sz]
  by_cases h : n = 8
  · subst h
    simp [Result.andThen, slicedAt]
  · have h' : ¬ 8 = n := by omega
    simp only [Result.andThen, slicedAt]
    rw [if_neg (by omega), if_neg h]
    simp [Addr.add]
theorem Ino.cs_map (x : Ino) (k : Nat) (hk : k < 8) : x.cs[3 + k]? = some (.int .i64 (x.map[k]'(by rw [x.len]; exact hk))) := by
  rcases (show k = 0 ∨ k = 1 ∨ k = 2 ∨ k = 3 ∨ k = 4 ∨ k = 5 ∨ k = 6 ∨ k = 7 by omega) with rfl | rfl | rfl | rfl | rfl | rfl | rfl | rfl <;> rfl
theorem map_head {x : Ino} {w : World} {b n : Nat} (hn : n ≤ 8) (hb : b < w.heap.size) (h : ∀ j, w.cell? ⟨b, j, none⟩ = x.cs[j]?) : RdI w (.slice (some ⟨b, 3, none⟩) n 8) (x.map.take n) := by
  have hl : (x.map.take n).length = n := by rw [List.length_take, x.len]; omega
  refine ⟨by rw [ints_len, Nat.mul_one], some ⟨b, 3, none⟩, 8, by rw [hl], ⟨by omega, fun e => by cases e⟩, fun _ => ⟨b, 3, rfl, hb, fun j hj => ?_⟩⟩
  rw [hl, Nat.mul_one] at hj
  rw [h, x.cs_map j (by omega), ints_at _ _ (by omega), List.getElem_take]
theorem map_tail {x : Ino} {w : World} {b n : Nat} (hn : n ≤ 8) (hb : b < w.heap.size) (h : ∀ j, w.cell? ⟨b, j, none⟩ = x.cs[j]?) : RdI w (.slice (some (if n = 8 then ⟨b, 3, none⟩ else ⟨b, 3 + n, none⟩)) (8 - n) (8 - n)) (x.map.drop n) := by
  have hl : (x.map.drop n).length = 8 - n := by rw [List.length_drop, x.len]
  refine ⟨by rw [ints_len, Nat.mul_one], some (if n = 8 then ⟨b, 3, none⟩ else ⟨b, 3 + n, none⟩), 8 - n, by rw [hl], ⟨by omega, fun e => by cases e⟩, fun hp => ?_⟩
  rw [hl] at hp
  refine ⟨b, 3 + n, by rw [if_neg (by omega)], hb, fun j hj => ?_⟩
  rw [hl, Nat.mul_one] at hj
  rw [h, Nat.add_assoc, x.cs_map (n + j) (by omega), ints_at _ _ (by omega), List.getElem_drop]
theorem Ino.R.at' {x : Ino} (h : x.R) (k : Nat) (hk : k < x.map.length) : -9223372036854775808 ≤ x.map[k] ∧ x.map[k] ≤ 9223372036854775807 := h _ (List.getElem_mem _)
set_option maxRecDepth 100000 in
set_option maxHeartbeats 2000000 in
theorem isFile_any (x : Ino) (w : World) (hT : TS w) (hr : x.R) : Calls Tryz.prog 236 #[x.v] w fun e w' => e = .returned (.bool (fileB x)) ∧ Below w.heap.size w w' := by
  have hv : x.v = .agg x.cs.toArray := rfl
  obtain ⟨W, hW⟩ : ∃ W, W = w.alloc (.cells x.cs.toArray 150) := ⟨_, rfl⟩
  have CA : Hid (∀ j, W.cell? ⟨w.heap.size, j, none⟩ = x.cs[j]?) := fun j => by rw [hW]; exact (eight_at (xs := x.cs) (at_new rfl) j).1
  have BW : Hid (Below w.heap.size w W) := by rw [hW]; exact (Below.refl _ _).alloc (Nat.le_refl _) _
  have T : Hid (TS W) := hT.below BW.out
  have hWz : w.heap.size < W.heap.size := by rw [hW]; simp
  have c0 : W.cell? ⟨w.heap.size, 0, none⟩ = some (.int .i64 x.kind) := CA.out 0
  have c1 : W.cell? ⟨w.heap.size, 1, none⟩ = some (.int .i64 x.size) := CA.out 1
  have c2 : W.cell? ⟨w.heap.size, 2, none⟩ = some (.int .i64 x.links) := CA.out 2
  have HR := hideIt hr
  subst hW
  rw [hv]
  clear hT hr
  by_cases h0 : x.kind = 1
  case neg =>
    have E := hideIt (show fileB x = false by unfold fileB; rw [decide_eq_false h0]; rfl)
    have q : (x.kind != 1) = true := by rw [bne_iff_ne]; exact h0
    go_enter Tryz.func236, Tryz.ntmps236
    go_wp2
    go_ret
    exact ⟨ret_bool E.out.symm, BW.out⟩
  have q : (x.kind != 1) = false := by rw [h0]; rfl
  by_cases h1 : 1 ≤ x.links
  case neg =>
    have E := hideIt (show fileB x = false by unfold fileB; rw [decide_eq_true h0, decide_eq_false (show ¬ (1 ≤ x.links ∧ x.links ≤ 24) by omega)]; rfl)
    have q2 : x.links < 1 := by omega
    go_enter Tryz.func236, Tryz.ntmps236
    go_wp2
    go_ret
    exact ⟨ret_bool E.out.symm, BW.out⟩
  have q2 : ¬ x.links < 1 := by omega
  by_cases h2 : x.links ≤ 24
  case neg =>
    have E := hideIt (show fileB x = false by unfold fileB; rw [decide_eq_true h0, decide_eq_false (show ¬ (1 ≤ x.links ∧ x.links ≤ 24) by omega)]; rfl)
    have q3 : 24 < x.links := by omega
    go_enter Tryz.func236, Tryz.ntmps236
    go_wp2
    go_ret
    exact ⟨ret_bool E.out.symm, BW.out⟩
  have q3 : ¬ 24 < x.links := by omega
  by_cases h3 : 0 ≤ x.size ∧ x.size < 9
  case neg =>
    have E := hideIt (show fileB x = false by unfold fileB; rw [decide_eq_true h0, decide_eq_true (show 1 ≤ x.links ∧ x.links ≤ 24 by omega), decide_eq_false h3]; rfl)
    have H3 := hideIt h3
    clear h3
    go_enter Tryz.func236, Tryz.ntmps236
    go_wp2_with (go_at_call 235; refine (isIndex_no _ _ _ H3.out).mono ?_; rintro e w' ⟨rfl, rfl⟩)
    go_ret
    exact ⟨ret_bool E.out.symm, BW.out⟩
  have E := hideIt (show fileB x = (tiesB (x.map.take x.size.toNat) && nowsB (x.map.drop x.size.toNat)) by unfold fileB; rw [decide_eq_true h0, decide_eq_true (show 1 ≤ x.links ∧ x.links ≤ 24 by omega), decide_eq_true h3]; rfl)
  obtain ⟨n, hn⟩ : ∃ n : Nat, x.size = (n : Int) := ⟨x.size.toNat, by omega⟩
  have hn8 : n ≤ 8 := by omega
  rw [show x.size.toNat = n by omega] at E
  rw [hn] at c1 h3
  have R1 := hideIt (map_head (x := x) hn8 hWz CA.out)
  have R2 := hideIt (map_tail (x := x) hn8 hWz CA.out)
  have s1 := mapHead (w.alloc (.cells x.cs.toArray 150)) w.heap.size n hn8
  have s2 := mapTail (w.alloc (.cells x.cs.toArray 150)) w.heap.size n hn8
  have L1 := hideIt (show (x.map.take n).length ≤ 2147483648 by rw [List.length_take]; omega)
  have L2 := hideIt (show (x.map.drop n).length ≤ 2147483648 by rw [List.length_drop, x.len]; omega)
  have RR := hideIt (show ∀ k (h : k < (x.map.take n).length), -9223372036854775808 ≤ (x.map.take n)[k] ∧ (x.map.take n)[k] ≤ 9223372036854775807 from fun k h => by rw [List.getElem_take]; exact HR.out.at' k _)
  have H3 := hideIt h3
  generalize (if n = 8 then (⟨w.heap.size, 3, none⟩ : Addr) else ⟨w.heap.size, 3 + n, none⟩) = aT at s2 R2
  cases hq : tiesB (x.map.take n) with
  | false =>
    have TQ := hideIt hq
    rw [hq] at E
    clear h3 hn hq
    go_enter Tryz.func236, Tryz.ntmps236
    go_wp2_with fail
    refine (isIndex_yes _ _ _ H3.out).mono ?_
    rintro e w' ⟨rfl, rfl⟩
    go_wp2_with fail
    refine (everyEntry_any _ _ _ R1.out L1.out T.out RR.out).mono ?_
    rw [TQ.out]
    rintro e w' ⟨rfl, rfl⟩
    go_wp2
    go_ret
    exact ⟨ret_bool (by rw [E.out]; rfl), BW.out⟩
  | true =>
    have TQ := hideIt hq
    rw [hq] at E
    clear h3 hn hq
    go_enter Tryz.func236, Tryz.ntmps236
    go_wp2_with fail
    refine (isIndex_yes _ _ _ H3.out).mono ?_
    rintro e w' ⟨rfl, rfl⟩
    go_wp2_with fail
    refine (everyEntry_any _ _ _ R1.out L1.out T.out RR.out).mono ?_
    rw [TQ.out]
    rintro e w' ⟨rfl, rfl⟩
    go_wp2_with fail
    refine (everyNowhere_any _ _ _ R2.out L2.out).mono ?_
    rintro e w' ⟨rfl, rfl⟩
    go_wp2
    go_ret
    exact ⟨ret_bool (by rw [E.out]; rfl), BW.out⟩
end Go.Proofs.YtmeiionabonhnaaGreatDoor

namespace Go.Proofs.YtmeiionabonhnaaGreatDoor
open Go.RowKit
set_option maxRecDepth 100000 in
set_option maxHeartbeats 2000000 in
theorem eq8 (a0 a1 a2 a3 a4 a5 a6 a7 b0 b1 b2 b3 b4 b5 b6 b7 : Int) (w : World) : (Op.equalIn 9999 148 (.agg #[.int .i64 a0, .int .i64 a1, .int .i64 a2, .int .i64 a3, .int .i64 a4, .int .i64 a5, .int .i64 a6, .int .i64 a7]) (.agg #[.int .i64 b0, .int .i64 b1, .int .i64 b2, .int .i64 b3, .int .i64 b4, .int .i64 b5, .int .i64 b6, .int .i64 b7])).run Tryz.prog w = .ok (decide ([a0, a1, a2, a3, a4, a5, a6, a7] = [b0, b1, b2, b3, b4, b5, b6, b7])) w := by
  have U3 := Tryz.underlying3
  have A3 := Tryz.isAgg3
  have Z3 := Tryz.sizeOf3
  rw [show (9999 : Nat) = 9998 + 1 from rfl, Op.equalIn]
  simp only [Sem.run_bind, run_underlying Tryz.underlying148, Result.andThen_ok]
  simp only [Std.Legacy.Range.forIn_eq_forIn_range', Std.Legacy.Range.size, Nat.sub_zero, Nat.add_sub_cancel, Nat.div_one, List.range'_succ, List.range'_zero, List.forIn_cons, List.forIn_nil]
  go_simp
  by_cases h0 : a0 = b0
  case neg => simp [h0]
  by_cases h1 : a1 = b1
  case neg => simp [h0, h1]
  by_cases h2 : a2 = b2
  case neg => simp [h0, h1, h2]
  by_cases h3 : a3 = b3
  case neg => simp [h0, h1, h2, h3]
  by_cases h4 : a4 = b4
  case neg => simp [h0, h1, h2, h3, h4]
  by_cases h5 : a5 = b5
  case neg => simp [h0, h1, h2, h3, h4, h5]
  by_cases h6 : a6 = b6
  case neg => simp [h0, h1, h2, h3, h4, h5, h6]
  by_cases h7 : a7 = b7
  case neg => simp [h0, h1, h2, h3, h4, h5, h6, h7]
  simp [h0, h1, h2, h3, h4, h5, h6, h7]
def inoEq (xs ys : List Int) : Bool := decide (xs = ys)
theorem inoEq_t {xs ys : List Int} (h : xs = ys) : inoEq xs ys = true := decide_eq_true h
theorem inoEq_f {xs ys : List Int} (h : ¬ xs = ys) : inoEq xs ys = false := decide_eq_false h
set_option maxRecDepth 100000 in
set_option maxHeartbeats 4000000 in
@[go_sem ↓] theorem eqIno (k s l a0 a1 a2 a3 a4 a5 a6 a7 k' s' l' b0 b1 b2 b3 b4 b5 b6 b7 : Int) (w : World) : (Op.equalIn 10000 150 (.agg #[.int .i64 k, .int .i64 s, .int .i64 l, .int .i64 a0, .int .i64 a1, .int .i64 a2, .int .i64 a3, .int .i64 a4, .int .i64 a5, .int .i64 a6, .int .i64 a7]) (.agg #[.int .i64 k', .int .i64 s', .int .i64 l', .int .i64 b0, .int .i64 b1, .int .i64 b2, .int .i64 b3, .int .i64 b4, .int .i64 b5, .int .i64 b6, .int .i64 b7])).run Tryz.prog w = .ok (inoEq [k, s, l, a0, a1, a2, a3, a4, a5, a6, a7] [k', s', l', b0, b1, b2, b3, b4, b5, b6, b7]) w := by
  have e8 := eq8 a0 a1 a2 a3 a4 a5 a6 a7 b0 b1 b2 b3 b4 b5 b6 b7 w
  unfold inoEq
  by_cases g0 : k = k'
  case neg => go_simp
  by_cases g1 : s = s'
  case neg => go_simp
  by_cases g2 : l = l'
  case neg => go_simp
  subst g0 g1 g2
  go_simp
  split
  · rename_i h
    rw [h]
  · rename_i h
    rw [Bool.not_eq_false] at h
    rw [h]
set_option maxRecDepth 100000 in
set_option maxHeartbeats 2000000 in
theorem isInode_any (x : Ino) (w : World) (hT : TS w) (hE : ED w) (hr : x.R) : Calls Tryz.prog 176 #[x.v] w fun e w' => e = .returned (.bool (inoB x)) ∧ Below w.heap.size w w' := by
  have hv : x.v = .agg x.cs.toArray := rfl
  have BW : Hid (Below w.heap.size w (w.alloc (.cells x.cs.toArray 150))) := (Below.refl _ _).alloc (Nat.le_refl _) _
  have CA : Hid (∀ j, (w.alloc (.cells x.cs.toArray 150)).cell? ⟨w.heap.size, j, none⟩ = x.cs[j]?) := fun j => (eight_at (xs := x.cs) (at_new rfl) j).1
  have T : Hid (TS (w.alloc (.cells x.cs.toArray 150))) := hT.below BW.out
  obtain ⟨d0, d1, d2, d3, d4, d5, d6, d7, d8, d9, d10⟩ := ED.cells (hE.below BW.out)
  obtain ⟨p0, p1, p2, p3, p4, p5, p6, p7, p8, p9, p10⟩ := Ino.all CA.out
  have LF := hideIt (fun w1 (h : TS w1) => isFile_any x w1 h hr)
  rw [hv]
  clear hT hE hr CA
  by_cases h0 : x.ns = [0, 0, 0, 0, 0, 0, 0, 0, 0, 0, 0]
  · have E := hideIt (ino_empty h0)
    have q1 : inoEq [x.kind, x.size, x.links, x.m0, x.m1, x.m2, x.m3, x.m4, x.m5, x.m6, x.m7] [0, 0, 0, 0, 0, 0, 0, 0, 0, 0, 0] = true := inoEq_t h0
    clear h0
    go_enter Tryz.func176, Tryz.ntmps176
    go_wp2
    go_ret
    exact ⟨ret_bool E.out.symm, BW.out⟩
  have q1 : inoEq [x.kind, x.size, x.links, x.m0, x.m1, x.m2, x.m3, x.m4, x.m5, x.m6, x.m7] [0, 0, 0, 0, 0, 0, 0, 0, 0, 0, 0] = false := inoEq_f h0
  by_cases h1 : x.ns = [2, 0, 1, 0, 0, 0, 0, 0, 0, 0, 0]
  · have E := hideIt (ino_dir h1)
    have q2 : inoEq [x.kind, x.size, x.links, x.m0, x.m1, x.m2, x.m3, x.m4, x.m5, x.m6, x.m7] [2, 0, 1, 0, 0, 0, 0, 0, 0, 0, 0] = true := inoEq_t h1
    clear h0 h1
    go_enter Tryz.func176, Tryz.ntmps176
    go_wp2
    go_ret
    exact ⟨ret_bool E.out.symm, BW.out⟩
  have q2 : inoEq [x.kind, x.size, x.links, x.m0, x.m1, x.m2, x.m3, x.m4, x.m5, x.m6, x.m7] [2, 0, 1, 0, 0, 0, 0, 0, 0, 0, 0] = false := inoEq_f h1
  have E := hideIt (ino_file h0 h1)
  clear h0 h1
  go_enter Tryz.func176, Tryz.ntmps176
  go_wp2_with fail
  refine (LF.out _ T.out).mono ?_
  rw [E.out]
  rintro e w1 ⟨rfl, hb1⟩
  have B1 := hideIt (below_trans BW.out hb1 BW.out.size)
  clear hb1
  go_wp2
  go_ret
  exact ⟨rfl, B1.out⟩
end Go.Proofs.YtmeiionabonhnaaGreatDoor
