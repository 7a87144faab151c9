/- Several texts laid together: Word, PiA. -/
import Derived.Test.YtgnfbiohjdepcaaGreatDoorZAB
import Derived.Test.YtgnfbiohjdepcaaGreatDoorZAE
import Derived.Test.YtgnfbiohjdepcaaGreatDoorZAC
namespace Go.Proofs.YtgnfbiohjdepcaaGreatDoor
open Go.RowKit
def wordB (n : Int) : Bool := decide (0 ≤ n ∧ n < 1099511627776)
def placeB (n : Int) : Bool := decide (0 ≤ n ∧ n < 336)
def secB (n : Int) : Bool := decide (0 ≤ n ∧ n < 32)
theorem secB_true {n : Int} (h : secB n = true) : 0 ≤ n ∧ n < 32 := of_decide_eq_true h
theorem placeB_true {n : Int} (h : placeB n = true) : 0 ≤ n ∧ n < 336 := of_decide_eq_true h
theorem isWord_any (n : Int) (w : World) : Calls Tryz.prog 72 #[.int .i64 n] w fun e w' => e = .returned (.bool (wordB n)) ∧ w' = w := by
  by_cases h0 : 0 ≤ n
  · by_cases h1 : n < 1099511627776
    · have e : wordB n = true := decide_eq_true ⟨h0, h1⟩
      rw [e]; clear e
      go_enter Tryz.func72, Tryz.ntmps72
      go_wp2
      go_ret
      exact ⟨rfl, rfl⟩
    · have e : wordB n = false := decide_eq_false (fun h => h1 h.2)
      rw [e]; clear e
      go_enter Tryz.func72, Tryz.ntmps72
      go_wp2
      go_ret
      exact ⟨rfl, rfl⟩
  · have e : wordB n = false := decide_eq_false (fun h => h0 h.1)
    rw [e]; clear e
    go_enter Tryz.func72, Tryz.ntmps72
    go_wp2
    go_ret
    exact ⟨rfl, rfl⟩
theorem isPlace_any (n : Int) (w : World) : Calls Tryz.prog 113 #[.int .i64 n] w fun e w' => e = .returned (.bool (placeB n)) ∧ w' = w := by
  by_cases h0 : 0 ≤ n
  · by_cases h1 : n < 336
    · have e : placeB n = true := decide_eq_true ⟨h0, h1⟩
      rw [e]; clear e
      go_enter Tryz.func113, Tryz.ntmps113
      go_wp2
      go_ret
      exact ⟨rfl, rfl⟩
    · have e : placeB n = false := decide_eq_false (fun h => h1 h.2)
      rw [e]; clear e
      go_enter Tryz.func113, Tryz.ntmps113
      go_wp2
      go_ret
      exact ⟨rfl, rfl⟩
  · have e : placeB n = false := decide_eq_false (fun h => h0 h.1)
    rw [e]; clear e
    go_enter Tryz.func113, Tryz.ntmps113
    go_wp2
    go_ret
    exact ⟨rfl, rfl⟩
theorem isSector_any (n : Int) (w : World) : Calls Tryz.prog 130 #[.int .i64 n] w fun e w' => e = .returned (.bool (secB n)) ∧ w' = w := by
  by_cases h0 : 0 ≤ n
  · by_cases h1 : n < 32
    · have e : secB n = true := decide_eq_true ⟨h0, h1⟩
      rw [e]; clear e
      go_enter Tryz.func130, Tryz.ntmps130
      go_wp2
      go_ret
      exact ⟨rfl, rfl⟩
    · have e : secB n = false := decide_eq_false (fun h => h1 h.2)
      rw [e]; clear e
      go_enter Tryz.func130, Tryz.ntmps130
      go_wp2
      go_ret
      exact ⟨rfl, rfl⟩
  · have e : secB n = false := decide_eq_false (fun h => h0 h.1)
    rw [e]; clear e
    go_enter Tryz.func130, Tryz.ntmps130
    go_wp2
    go_ret
    exact ⟨rfl, rfl⟩
def inB (n lo hi : Int) : Bool := decide (lo ≤ n ∧ n ≤ hi)
theorem l01In_any (n lo hi : Int) (w : World) : Calls Tryz.prog 52 #[.int .i64 n, .int .i64 lo, .int .i64 hi] w fun e w' => e = .returned (.bool (inB n lo hi)) ∧ w' = w := by
  by_cases h0 : lo ≤ n
  · by_cases h1 : n ≤ hi
    · have e : inB n lo hi = true := decide_eq_true ⟨h0, h1⟩
      rw [e]; clear e
      go_enter Tryz.func52, Tryz.ntmps52
      go_wp2
      go_ret
      exact ⟨rfl, rfl⟩
    · have e : inB n lo hi = false := decide_eq_false (fun h => h1 h.2)
      rw [e]; clear e
      go_enter Tryz.func52, Tryz.ntmps52
      go_wp2
      go_ret
      exact ⟨rfl, rfl⟩
  · have e : inB n lo hi = false := decide_eq_false (fun h => h0 h.1)
    rw [e]; clear e
    go_enter Tryz.func52, Tryz.ntmps52
    go_wp2
    go_ret
    exact ⟨rfl, rfl⟩
theorem inB_word (n : Int) : inB n 0 1099511627775 = wordB n := by
  unfold inB wordB
  rw [decide_eq_decide]
  omega
theorem inB_place (n : Int) : inB n 0 335 = placeB n := by
  unfold inB placeB
  rw [decide_eq_decide]
  omega
theorem inB_sec (n : Int) : inB n 0 31 = secB n := by
  unfold inB secB
  rw [decide_eq_decide]
  omega
theorem l01InSec_any (n : Int) (w : World) : Calls Tryz.prog 52 #[.int .i64 n, .int .i64 0, .int .i64 31] w fun e w' => e = .returned (.bool (secB n)) ∧ w' = w := by
  rw [← inB_sec]
  exact l01In_any n 0 31 w
theorem l01InPlace_any (n : Int) (w : World) : Calls Tryz.prog 52 #[.int .i64 n, .int .i64 0, .int .i64 335] w fun e w' => e = .returned (.bool (placeB n)) ∧ w' = w := by
  rw [← inB_place]
  exact l01In_any n 0 335 w
theorem l01Word_any (n : Int) (w : World) : Calls Tryz.prog 65 #[.int .i64 n] w fun e w' => e = .returned (.bool (wordB n)) ∧ w' = w := by
  have E := hideIt (inB_word n)
  go_enter Tryz.func65, Tryz.ntmps65
  go_wp2_with fail
  refine (l01In_any n 0 1099511627775 _).mono ?_
  rw [E.out]
  rintro e w' ⟨rfl, rfl⟩
  go_wp2
  go_ret
  exact ⟨rfl, rfl⟩
def wordsB (zs : List Int) : Bool := decide (∀ k (h : k < zs.length), wordB zs[k] = true)
theorem wordsB_true {zs : List Int} (h : wordsB zs = true) : ∀ k (h : k < zs.length), wordB zs[k] = true := of_decide_eq_true h
theorem wordsB_mk {zs : List Int} (h : ∀ k (h : k < zs.length), wordB zs[k] = true) : wordsB zs = true := decide_eq_true h
theorem wordsB_not {zs : List Int} {k : Nat} (hk : k < zs.length) (h : wordB zs[k] = false) : wordsB zs = false := decide_eq_false (fun x => by have := x k hk; rw [h] at this; cases this)
theorem wordsB_ex {zs : List Int} (h : wordsB zs = false) : ∃ k, ∃ h : k < zs.length, wordB zs[k] = false := by
  apply Classical.byContradiction
  intro hn
  have : wordsB zs = true := wordsB_mk (fun k hk => by
    cases e : wordB zs[k] with
    | true => rfl
    | false => exact absurd ⟨k, hk, e⟩ hn)
  rw [h] at this
  cases this
end Go.Proofs.YtgnfbiohjdepcaaGreatDoor

namespace Go.Proofs.YtgnfbiohjdepcaaGreatDoor
open Go.RowKit
def Ino.ns (x : Ino) : List Int := [x.kind, x.size, x.links, x.m0, x.m1, x.m2, x.m3, x.m4, x.m5, x.m6, x.m7]
def tiesB (zs : List Int) : Bool := decide (∀ k (h : k < zs.length), tieB zs[k] = true)
def nowsB (zs : List Int) : Bool := decide (∀ k (h : k < zs.length), (zs[k] == 0) = true)
def fileB (x : Ino) : Bool := decide (x.kind = 1) && (decide (1 ≤ x.links ∧ x.links ≤ 24) && (decide (0 ≤ x.size ∧ x.size < 9) && (tiesB (x.map.take x.size.toNat) && nowsB (x.map.drop x.size.toNat))))
theorem tieB_zero : tieB 0 = true := by decide
theorem ino_empty {x : Ino} (h : x.ns = [0, 0, 0, 0, 0, 0, 0, 0, 0, 0, 0]) : inoB x = true := by
  obtain ⟨k, s, l, m0, m1, m2, m3, m4, m5, m6, m7⟩ := x
  simp only [Ino.ns, List.cons.injEq, and_true] at h
  obtain ⟨rfl, rfl, rfl, rfl, rfl, rfl, rfl, rfl, rfl, rfl, rfl⟩ := h
  decide
theorem ino_dir {x : Ino} (h : x.ns = [2, 0, 1, 0, 0, 0, 0, 0, 0, 0, 0]) : inoB x = true := by
  obtain ⟨k, s, l, m0, m1, m2, m3, m4, m5, m6, m7⟩ := x
  simp only [Ino.ns, List.cons.injEq, and_true] at h
  obtain ⟨rfl, rfl, rfl, rfl, rfl, rfl, rfl, rfl, rfl, rfl, rfl⟩ := h
  decide
theorem map_parts {x : Ino} (h0 : 0 ≤ x.size) (h8 : x.size ≤ 8) : mapB x.map x.size = (tiesB (x.map.take x.size.toNat) && nowsB (x.map.drop x.size.toNat)) := by
  rw [Bool.eq_iff_iff, Bool.and_eq_true]
  have hl : x.map.length = 8 := rfl
  have hg : ∀ i (h : i < 8), x.map.getD i 0 = x.map[i]'(by rw [hl]; exact h) := fun i h => by
    rw [List.getD_eq_getElem?_getD, List.getElem?_eq_getElem (by rw [hl]; exact h)]; rfl
  constructor
  · intro h
    have h := mapB_to h
    refine ⟨decide_eq_true fun k hk => ?_, decide_eq_true fun k hk => ?_⟩
    · rw [List.length_take, hl] at hk
      have := h k (by omega)
      rw [hg k (by omega)] at this
      rw [List.getElem_take]
      unfold entB at this
      exact (Bool.and_eq_true _ _ ▸ this : _ ∧ _).1
    · rw [List.length_drop, hl] at hk
      have := h (x.size.toNat + k) (by omega)
      rw [hg _ (by omega)] at this
      rw [List.getElem_drop]
      unfold entB at this
      have := (Bool.and_eq_true _ _ ▸ this : _ ∧ _).2
      rw [Bool.or_eq_true] at this
      rcases this with h1 | h1
      · exact h1
      · have := of_decide_eq_true h1
        omega
  · rintro ⟨h1, h2⟩
    have h1 := of_decide_eq_true h1
    have h2 := of_decide_eq_true h2
    refine mapB_of fun i hi => ?_
    rw [hg i hi]
    unfold entB
    rw [Bool.and_eq_true, Bool.or_eq_true]
    by_cases hs : i < x.size.toNat
    · have := h1 i (by rw [List.length_take, hl]; omega)
      rw [List.getElem_take] at this
      exact ⟨this, .inr (decide_eq_true (by omega))⟩
    · have := h2 (i - x.size.toNat) (by rw [List.length_drop, hl]; omega)
      rw [List.getElem_drop] at this
      have e : x.size.toNat + (i - x.size.toNat) = i := by omega
      simp only [e] at this
      exact ⟨by rw [eq_of_beq this]; exact tieB_zero, .inl this⟩
theorem map_nought {x : Ino} (h0 : x.size = 0) (h : mapB x.map x.size = true) : x.map = [0, 0, 0, 0, 0, 0, 0, 0] := by
  have h := mapB_to h
  have g : ∀ i, i < 8 → x.map.getD i 0 = 0 := fun i hi => by
    have := h i hi
    unfold entB at this
    have := (Bool.and_eq_true _ _ ▸ this : _ ∧ _).2
    rw [Bool.or_eq_true] at this
    rcases this with h1 | h1
    · exact eq_of_beq h1
    · have := of_decide_eq_true h1; omega
  have a0 := g 0 (by omega); have a1 := g 1 (by omega); have a2 := g 2 (by omega); have a3 := g 3 (by omega); have a4 := g 4 (by omega); have a5 := g 5 (by omega); have a6 := g 6 (by omega); have a7 := g 7 (by omega)
  simp [Ino.map] at *
  exact ⟨a0, a1, a2, a3, a4, a5, a6, a7⟩
theorem ino_file {x : Ino} (h0 : ¬ x.ns = [0, 0, 0, 0, 0, 0, 0, 0, 0, 0, 0]) (h1 : ¬ x.ns = [2, 0, 1, 0, 0, 0, 0, 0, 0, 0, 0]) : fileB x = inoB x := by
  by_cases hk : x.kind = 1
  · unfold fileB inoB
    rw [decide_eq_true hk, decide_eq_true (show 0 ≤ x.kind ∧ x.kind ≤ 2 by omega)]
    simp only [Bool.true_and]
    by_cases hs : 0 ≤ x.size ∧ x.size ≤ 8
    · rw [decide_eq_true hs, decide_eq_true (show 0 ≤ x.size ∧ x.size < 9 by omega), ← map_parts hs.1 hs.2]
      have e : kindB x = decide (0 < x.links) := by unfold kindB; rw [if_neg (by omega), if_neg (by omega)]
      rw [e]
      by_cases hl : 1 ≤ x.links ∧ x.links ≤ 24
      · rw [decide_eq_true hl, decide_eq_true (show 0 ≤ x.links ∧ x.links ≤ 24 by omega), decide_eq_true (show 0 < x.links by omega)]; simp
      · rw [decide_eq_false hl]
        by_cases h3 : 0 < x.links
        · rw [decide_eq_false (show ¬ (0 ≤ x.links ∧ x.links ≤ 24) by omega)]; simp
        · rw [decide_eq_false h3]; simp
    · rw [decide_eq_false hs, decide_eq_false (show ¬ (0 ≤ x.size ∧ x.size < 9) by omega)]; simp
  · have e1 : fileB x = false := by unfold fileB; rw [decide_eq_false hk]; rfl
    rw [e1, eq_comm, Bool.eq_false_iff]
    intro e
    unfold inoB at e
    simp only [Bool.and_eq_true, decide_eq_true_eq] at e
    obtain ⟨a, b, c, d, f⟩ := e
    unfold kindB at f
    by_cases k0 : x.kind = 0
    · rw [if_pos k0] at f
      obtain ⟨f1, f2, f3⟩ := of_decide_eq_true f
      apply h0
      simp only [Ino.map, List.cons.injEq, and_true] at f3
      simp [Ino.ns, k0, f1, f2, f3]
    · rw [if_neg k0, if_pos (by omega)] at f
      simp only [Bool.and_eq_true, beq_iff_eq] at f
      have f3 := map_nought f.1 d
      apply h1
      simp only [Ino.map, List.cons.injEq, and_true] at f3
      have k2 : x.kind = 2 := by omega
      simp [Ino.ns, k2, f.1, f.2, f3]
def ED (w : World) : Prop := ∃ t fr, w.heap[3]? = some (.cells #[.int .i64 2, .int .i64 0, .int .i64 1, .int .i64 0, .int .i64 0, .int .i64 0, .int .i64 0, .int .i64 0, .int .i64 0, .int .i64 0, .int .i64 0] t fr)
theorem ED.lt {w : World} (h : ED w) : 3 < w.heap.size := by
  obtain ⟨t, fr, h⟩ := h
  exact (Array.getElem?_eq_some_iff.1 h).1
theorem ED.below {w w' : World} (h : ED w) (hb : Below w.heap.size w w') : ED w' := by
  have hl := h.lt
  obtain ⟨t, fr, h⟩ := h
  exact ⟨t, fr, (hb.block _ hl).trans h⟩
theorem ED.cells {w : World} (h : ED w) : w.cell? ⟨3, 0, none⟩ = some (.int .i64 2) ∧ w.cell? ⟨3, 1, none⟩ = some (.int .i64 0) ∧ w.cell? ⟨3, 2, none⟩ = some (.int .i64 1) ∧ w.cell? ⟨3, 3, none⟩ = some (.int .i64 0) ∧ w.cell? ⟨3, 4, none⟩ = some (.int .i64 0) ∧ w.cell? ⟨3, 5, none⟩ = some (.int .i64 0) ∧ w.cell? ⟨3, 6, none⟩ = some (.int .i64 0) ∧ w.cell? ⟨3, 7, none⟩ = some (.int .i64 0) ∧ w.cell? ⟨3, 8, none⟩ = some (.int .i64 0) ∧ w.cell? ⟨3, 9, none⟩ = some (.int .i64 0) ∧ w.cell? ⟨3, 10, none⟩ = some (.int .i64 0) := by
  obtain ⟨t, fr, h⟩ := h
  simp [World.cell?, h]
theorem isEntry_any (n : Int) (w : World) (hT : TS w) (h0 : -9223372036854775808 ≤ n) (h1 : n ≤ 9223372036854775807) : Calls Tryz.prog 172 #[.int .i64 n] w fun e w' => e = .returned (.bool (tieB n)) ∧ w' = w := by
  have T := hideIt hT
  clear hT
  cases c : tieB n with
  | true =>
    have E := hideIt (tie_in c).2.2
    clear c
    go_enter Tryz.func172, Tryz.ntmps172
    go_wp2_with (go_at_call 60; refine (implTierOf_any _ _ T.out h0 h1).mono ?_; rw [E.out]; rintro e w' ⟨rfl, rfl⟩)
    go_ret
    exact ⟨rfl, rfl⟩
  | false =>
    have E := hideIt (tie_out c).2.2
    clear c
    go_enter Tryz.func172, Tryz.ntmps172
    go_wp2_with (go_at_call 60; refine (implTierOf_any _ _ T.out h0 h1).mono ?_; rw [E.out]; rintro e w' ⟨rfl, rfl⟩)
    go_ret
    exact ⟨rfl, rfl⟩
theorem isNowhere_any (n : Int) (w : World) : Calls Tryz.prog 173 #[.int .i64 n] w fun e w' => e = .returned (.bool (n == 0)) ∧ w' = w := by
  go_enter Tryz.func173, Tryz.ntmps173
  go_wp2
  go_ret
  exact ⟨rfl, rfl⟩
theorem tiesB_mk {zs : List Int} (h : ∀ k (h : k < zs.length), tieB zs[k] = true) : tiesB zs = true := decide_eq_true h
theorem tiesB_not {zs : List Int} {k : Nat} (hk : k < zs.length) (h : tieB zs[k] = false) : tiesB zs = false := decide_eq_false (fun x => by have := x k hk; rw [h] at this; cases this)
theorem nowsB_mk {zs : List Int} (h : ∀ k (h : k < zs.length), (zs[k] == 0) = true) : nowsB zs = true := decide_eq_true h
theorem nowsB_not {zs : List Int} {k : Nat} (hk : k < zs.length) (h : (zs[k] == 0) = false) : nowsB zs = false := decide_eq_false (fun x => by have := x k hk; rw [h] at this; cases this)
set_option maxHeartbeats 2000000 in
theorem everyEntry_any (v : Value) (zs : List Int) (w : World) (h : RdI w v zs) (hn : zs.length ≤ 2147483648) (hT : TS w) (hr : ∀ k (h : k < zs.length), -9223372036854775808 ≤ zs[k] ∧ zs[k] ≤ 9223372036854775807) :
    Calls Tryz.prog 97 #[v, .func (.func 172) #[] #[]] w fun e w' => e = .returned (.bool (tiesB zs)) ∧ w' = w := by
  have T := hideIt hT
  have HR := hideIt hr
  clear hT hr
  obtain ⟨ao, cap, rfl, _, hc⟩ := h.shape
  clear h
  go_enter Tryz.func97, Tryz.ntmps97
  go_wp2
  go_loop [6, 9] (fun _ i => ∃ k : Nat, k ≤ zs.length ∧ i = .int .i64 k ∧ Hid (∀ j (h : j < zs.length), j < k → tieB zs[j] = true)) (fun _ i => zs.length - (intOf i).toNat)
  case atStart => exact ⟨0, by omega, rfl, fun j h a => absurd a (by omega)⟩
  case round =>
    obtain ⟨k, hk, rfl, H⟩ := hrel
    by_cases hlt : k < zs.length
    · obtain ⟨b, o, rfl, hbl, hcell⟩ := hc (by omega)
      have hck := hcell k hlt
      obtain ⟨r0, r1⟩ := HR.out k hlt
      clear hcell hc
      by_cases q : tieB zs[k] = true
      · go_wp2_with (go_at_call 172; refine (isEntry_any _ _ T.out r0 r1).mono ?_; rintro e w' ⟨rfl, rfl⟩)
        go_round
        case rel =>
          refine ⟨k + 1, by omega, by go_num, fun j h a => ?_⟩
          by_cases e : j = k
          · subst e; exact q
          · exact H.out j h (by omega)
        case measure => simp [intOf]; omega
      · have q' : tieB zs[k] = false := by simpa using q
        have E := hideIt (tiesB_not hlt q')
        go_wp2_with (go_at_call 172; refine (isEntry_any _ _ T.out r0 r1).mono ?_; rintro e w' ⟨rfl, rfl⟩)
        go_ret
        exact ⟨ret_bool E.out.symm, rfl⟩
    · have E := hideIt (tiesB_mk (fun j h => H.out j h (by omega)))
      clear H
      go_wp2
      go_ret
      exact ⟨ret_bool E.out.symm, rfl⟩
set_option maxHeartbeats 2000000 in
theorem everyNowhere_any (v : Value) (zs : List Int) (w : World) (h : RdI w v zs) (hn : zs.length ≤ 2147483648) :
    Calls Tryz.prog 97 #[v, .func (.func 173) #[] #[]] w fun e w' => e = .returned (.bool (nowsB zs)) ∧ w' = w := by
  obtain ⟨ao, cap, rfl, _, hc⟩ := h.shape
  clear h
  go_enter Tryz.func97, Tryz.ntmps97
  go_wp2
  go_loop [6, 9] (fun _ i => ∃ k : Nat, k ≤ zs.length ∧ i = .int .i64 k ∧ Hid (∀ j (h : j < zs.length), j < k → (zs[j] == 0) = true)) (fun _ i => zs.length - (intOf i).toNat)
  case atStart => exact ⟨0, by omega, rfl, fun j h a => absurd a (by omega)⟩
  case round =>
    obtain ⟨k, hk, rfl, H⟩ := hrel
    by_cases hlt : k < zs.length
    · obtain ⟨b, o, rfl, hbl, hcell⟩ := hc (by omega)
      have hck := hcell k hlt
      clear hcell hc
      by_cases q : (zs[k] == 0) = true
      · go_wp2_with (go_at_call 173; refine (isNowhere_any _ _).mono ?_; rintro e w' ⟨rfl, rfl⟩)
        go_round
        case rel =>
          refine ⟨k + 1, by omega, by go_num, fun j h a => ?_⟩
          by_cases e : j = k
          · subst e; exact q
          · exact H.out j h (by omega)
        case measure => simp [intOf]; omega
      · have q' : (zs[k] == 0) = false := by simpa using q
        have E := hideIt (nowsB_not hlt q')
        go_wp2_with (go_at_call 173; refine (isNowhere_any _ _).mono ?_; rintro e w' ⟨rfl, rfl⟩)
        go_ret
        exact ⟨ret_bool E.out.symm, rfl⟩
    · have E := hideIt (nowsB_mk (fun j h => H.out j h (by omega)))
      clear H
      go_wp2
      go_ret
      exact ⟨ret_bool E.out.symm, rfl⟩
end Go.Proofs.YtgnfbiohjdepcaaGreatDoor
