/- Several texts laid together: Blk, Word. -/
import Derived.Test.YtbjalmiheipjjaaDoorZAB
import Derived.Deep.RegionWith
namespace Go.Proofs.YtbjalmiheipjjaaDoor
open Go.RowKit
def RdBlk (w : World) (v : Value) (ws : List Int) (ps : List Se) : Prop := ∃ vW vP, v = .agg #[vW, vP] ∧ RdI w vW ws ∧ RdE w vP ps
def RowZ (w : World) (lo hi : Nat) (v : Value) (n : Nat) (xs : List Value) : Prop := ∃ e, e ≠ 107 ∧ Row w e 1 lo hi v n xs
theorem RowZ.rd {w : World} {lo hi : Nat} {v : Value} {n : Nat} {xs : List Value} (h : RowZ w lo hi v n xs) : Rd w 1 v n xs := by
  obtain ⟨_, _, h⟩ := h
  exact h.rd
theorem RowZ.same {w w' : World} {lo hi : Nat} {v : Value} {n : Nat} {xs : List Value} (h : RowZ w lo hi v n xs) (hs : ∀ b, lo ≤ b → b < hi → w'.heap[b]? = w.heap[b]?) : RowZ w' lo hi v n xs := by
  obtain ⟨e, he, h⟩ := h
  exact ⟨e, he, h.same hs⟩
theorem RowZ.below {w w' : World} {lo hi : Nat} {v : Value} {n : Nat} {xs : List Value} (h : RowZ w lo hi v n xs) {B : Nat} (hb : Below B w w') (hB : hi ≤ B) : RowZ w' lo hi v n xs := by
  obtain ⟨e, he, h⟩ := h
  exact ⟨e, he, h.below hb hB⟩
theorem RowZ.outside {w w' : World} {lo hi : Nat} {v : Value} {n : Nat} {xs : List Value} (h : RowZ w lo hi v n xs) {lo' hi' : Nat} (ho : Outside lo' hi' w w') (hd : hi ≤ lo' ∨ hi' ≤ lo) (hz : hi ≤ w.heap.size) : RowZ w' lo hi v n xs := by
  obtain ⟨e, he, h⟩ := h
  exact ⟨e, he, h.outside ho hd hz⟩
theorem RowZ.wide {w : World} {lo hi : Nat} {v : Value} {n : Nat} {xs : List Value} (h : RowZ w lo hi v n xs) {lo' hi' : Nat} (h1 : lo' ≤ lo) (h2 : hi ≤ hi') : RowZ w lo' hi' v n xs := by
  obtain ⟨e, he, h⟩ := h
  exact ⟨e, he, h.wide h1 h2⟩
theorem RowZ.nil (w : World) (lo hi : Nat) : RowZ w lo hi (.slice none 0 0) 0 [] := ⟨3, by decide, Row.nil _ _ _ _ _⟩
theorem Row.z {w : World} {lo hi : Nat} {v : Value} {n : Nat} {xs : List Value} (h : Row w 3 1 lo hi v n xs) : RowZ w lo hi v n xs := ⟨3, by decide, h⟩
def RowBlk (w : World) (lo hi : Nat) (v : Value) (ws : List Int) (ps : List Se) : Prop := ∃ vW vP, v = .agg #[vW, vP] ∧ RowZ w lo hi vW ws.length (ints ws) ∧ Row w 107 2 lo hi vP ps.length (ses ps)
theorem RowBlk.rd {w : World} {lo hi : Nat} {v : Value} {ws : List Int} {ps : List Se} (h : RowBlk w lo hi v ws ps) : RdBlk w v ws ps := by
  obtain ⟨vW, vP, rfl, h1, h2⟩ := h
  exact ⟨vW, vP, rfl, h1.rd, h2.rd⟩
theorem RdBlk.below {w w' : World} {v : Value} {ws : List Int} {ps : List Se} (h : RdBlk w v ws ps) (hb : Below w.heap.size w w') : RdBlk w' v ws ps := by
  obtain ⟨vW, vP, rfl, h1, h2⟩ := h
  exact ⟨vW, vP, rfl, Rd.below h1 hb, Rd.below h2 hb⟩
theorem RowBlk.below {w w' : World} {lo hi : Nat} {v : Value} {ws : List Int} {ps : List Se} (h : RowBlk w lo hi v ws ps) {B : Nat} (hb : Below B w w') (hB : hi ≤ B) : RowBlk w' lo hi v ws ps := by
  obtain ⟨vW, vP, rfl, h1, h2⟩ := h
  exact ⟨vW, vP, rfl, h1.below hb hB, h2.below hb hB⟩
theorem RowBlk.outside {w w' : World} {lo hi : Nat} {v : Value} {ws : List Int} {ps : List Se} (h : RowBlk w lo hi v ws ps) {lo' hi' : Nat} (ho : Outside lo' hi' w w') (hd : hi ≤ lo' ∨ hi' ≤ lo) (hz : hi ≤ w.heap.size) : RowBlk w' lo hi v ws ps := by
  obtain ⟨vW, vP, rfl, h1, h2⟩ := h
  exact ⟨vW, vP, rfl, h1.outside ho hd hz, h2.outside ho hd hz⟩
theorem RowBlk.wide {w : World} {lo hi : Nat} {v : Value} {ws : List Int} {ps : List Se} (h : RowBlk w lo hi v ws ps) {lo' hi' : Nat} (h1 : lo' ≤ lo) (h2 : hi ≤ hi') : RowBlk w lo' hi' v ws ps := by
  obtain ⟨vW, vP, rfl, a, b⟩ := h
  exact ⟨vW, vP, rfl, a.wide h1 h2, b.wide h1 h2⟩
end Go.Proofs.YtbjalmiheipjjaaDoor

namespace Go.Proofs.YtbjalmiheipjjaaDoor
open Go.RowKit
def wordB (n : Int) : Bool := decide (0 ≤ n ∧ n < 1099511627776)
def placeB (n : Int) : Bool := decide (0 ≤ n ∧ n < 336)
def secB (n : Int) : Bool := decide (0 ≤ n ∧ n < 32)
theorem secB_true {n : Int} (h : secB n = true) : 0 ≤ n ∧ n < 32 := of_decide_eq_true h
theorem wordB_true {n : Int} (h : wordB n = true) : 0 ≤ n ∧ n < 1099511627776 := of_decide_eq_true h
theorem placeB_true {n : Int} (h : placeB n = true) : 0 ≤ n ∧ n < 336 := of_decide_eq_true h
theorem isWord_any (n : Int) (w : World) : Calls Tryd.prog 40 #[.int .i64 n] w fun e w' => e = .returned (.bool (wordB n)) ∧ w' = w := by
  by_cases h0 : 0 ≤ n
  · by_cases h1 : n < 1099511627776
    · have e : wordB n = true := decide_eq_true ⟨h0, h1⟩
      rw [e]; clear e
      go_enter Tryd.func40, Tryd.ntmps40
      go_wp2
      go_ret
      exact ⟨rfl, rfl⟩
    · have e : wordB n = false := decide_eq_false (fun h => h1 h.2)
      rw [e]; clear e
      go_enter Tryd.func40, Tryd.ntmps40
      go_wp2
      go_ret
      exact ⟨rfl, rfl⟩
  · have e : wordB n = false := decide_eq_false (fun h => h0 h.1)
    rw [e]; clear e
    go_enter Tryd.func40, Tryd.ntmps40
    go_wp2
    go_ret
    exact ⟨rfl, rfl⟩
theorem isPlace_any (n : Int) (w : World) : Calls Tryd.prog 39 #[.int .i64 n] w fun e w' => e = .returned (.bool (placeB n)) ∧ w' = w := by
  by_cases h0 : 0 ≤ n
  · by_cases h1 : n < 336
    · have e : placeB n = true := decide_eq_true ⟨h0, h1⟩
      rw [e]; clear e
      go_enter Tryd.func39, Tryd.ntmps39
      go_wp2
      go_ret
      exact ⟨rfl, rfl⟩
    · have e : placeB n = false := decide_eq_false (fun h => h1 h.2)
      rw [e]; clear e
      go_enter Tryd.func39, Tryd.ntmps39
      go_wp2
      go_ret
      exact ⟨rfl, rfl⟩
  · have e : placeB n = false := decide_eq_false (fun h => h0 h.1)
    rw [e]; clear e
    go_enter Tryd.func39, Tryd.ntmps39
    go_wp2
    go_ret
    exact ⟨rfl, rfl⟩
theorem isSector_any (n : Int) (w : World) : Calls Tryd.prog 72 #[.int .i64 n] w fun e w' => e = .returned (.bool (secB n)) ∧ w' = w := by
  by_cases h0 : 0 ≤ n
  · by_cases h1 : n < 32
    · have e : secB n = true := decide_eq_true ⟨h0, h1⟩
      rw [e]; clear e
      go_enter Tryd.func72, Tryd.ntmps72
      go_wp2
      go_ret
      exact ⟨rfl, rfl⟩
    · have e : secB n = false := decide_eq_false (fun h => h1 h.2)
      rw [e]; clear e
      go_enter Tryd.func72, Tryd.ntmps72
      go_wp2
      go_ret
      exact ⟨rfl, rfl⟩
  · have e : secB n = false := decide_eq_false (fun h => h0 h.1)
    rw [e]; clear e
    go_enter Tryd.func72, Tryd.ntmps72
    go_wp2
    go_ret
    exact ⟨rfl, rfl⟩
def inB (n lo hi : Int) : Bool := decide (lo ≤ n ∧ n ≤ hi)
theorem l01In_any (n lo hi : Int) (w : World) : Calls Tryd.prog 60 #[.int .i64 n, .int .i64 lo, .int .i64 hi] w fun e w' => e = .returned (.bool (inB n lo hi)) ∧ w' = w := by
  by_cases h0 : lo ≤ n
  · by_cases h1 : n ≤ hi
    · have e : inB n lo hi = true := decide_eq_true ⟨h0, h1⟩
      rw [e]; clear e
      go_enter Tryd.func60, Tryd.ntmps60
      go_wp2
      go_ret
      exact ⟨rfl, rfl⟩
    · have e : inB n lo hi = false := decide_eq_false (fun h => h1 h.2)
      rw [e]; clear e
      go_enter Tryd.func60, Tryd.ntmps60
      go_wp2
      go_ret
      exact ⟨rfl, rfl⟩
  · have e : inB n lo hi = false := decide_eq_false (fun h => h0 h.1)
    rw [e]; clear e
    go_enter Tryd.func60, Tryd.ntmps60
    go_wp2
    go_ret
    exact ⟨rfl, rfl⟩
theorem inB_word (n : Int) : inB n 0 1099511627775 = wordB n := by
  unfold inB wordB
  rw [decide_eq_decide]
  omega
theorem inB_place (n : Int) : inB n 0 335 = placeB n := by
  unfold inB placeB
  rw [decide_eq_decide]
  omega
theorem l01InPlace_any (n : Int) (w : World) : Calls Tryd.prog 60 #[.int .i64 n, .int .i64 0, .int .i64 335] w fun e w' => e = .returned (.bool (placeB n)) ∧ w' = w := by
  rw [← inB_place]
  exact l01In_any n 0 335 w
theorem l01Word_any (n : Int) (w : World) : Calls Tryd.prog 59 #[.int .i64 n] w fun e w' => e = .returned (.bool (wordB n)) ∧ w' = w := by
  have E := hideIt (inB_word n)
  go_enter Tryd.func59, Tryd.ntmps59
  go_wp2_with fail
  refine (l01In_any n 0 1099511627775 _).mono ?_
  rw [E.out]
  rintro e w' ⟨rfl, rfl⟩
  go_wp2
  go_ret
  exact ⟨rfl, rfl⟩
def wordsB (zs : List Int) : Bool := decide (∀ k (h : k < zs.length), wordB zs[k] = true)
theorem wordsB_true {zs : List Int} (h : wordsB zs = true) : ∀ k (h : k < zs.length), wordB zs[k] = true := of_decide_eq_true h
theorem wordsB_mk {zs : List Int} (h : ∀ k (h : k < zs.length), wordB zs[k] = true) : wordsB zs = true := decide_eq_true h
theorem wordsB_not {zs : List Int} {k : Nat} (hk : k < zs.length) (h : wordB zs[k] = false) : wordsB zs = false := decide_eq_false (fun x => by have := x k hk; rw [h] at this; cases this)
theorem wordsB_ex {zs : List Int} (h : wordsB zs = false) : ∃ k, ∃ h : k < zs.length, wordB zs[k] = false := by
  apply Classical.byContradiction
  intro hn
  have : wordsB zs = true := wordsB_mk (fun k hk => by
    cases e : wordB zs[k] with
    | true => rfl
    | false => exact absurd ⟨k, hk, e⟩ hn)
  rw [h] at this
  cases this
end Go.Proofs.YtbjalmiheipjjaaDoor
