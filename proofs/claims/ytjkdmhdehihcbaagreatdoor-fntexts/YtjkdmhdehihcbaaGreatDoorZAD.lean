/- Several texts laid together: ImB, SecS, UpL, StoreS, ImE, Word. -/
import Derived.Test.YtjkdmhdehihcbaaGreatDoorZAC
import Derived.Deep.RegionWith
import Derived.Deep.RegionHeld3
import Derived.Laws.OwnMore
namespace Go.Proofs.YtjkdmhdehihcbaaGreatDoor
open Go.RowKit
set_option maxRecDepth 100000 in
set_option maxHeartbeats 2000000 in
@[go_sem] theorem eqZero8 (m0 m1 m2 m3 m4 m5 m6 m7 : Int) (w : World) : (Op.equalIn 9999 198 (.agg #[.int .i64 m0, .int .i64 m1, .int .i64 m2, .int .i64 m3, .int .i64 m4, .int .i64 m5, .int .i64 m6, .int .i64 m7]) (.agg #[.int .i64 0, .int .i64 0, .int .i64 0, .int .i64 0, .int .i64 0, .int .i64 0, .int .i64 0, .int .i64 0])).run Tryz.prog w = .ok (decide ([m0, m1, m2, m3, m4, m5, m6, m7] = [0, 0, 0, 0, 0, 0, 0, 0])) w := by
  have u3 := Tryz.underlying3
  have a3 := Tryz.isAgg3
  have z3 := Tryz.sizeOf3
  rw [show (9999 : Nat) = 9998 + 1 from rfl, Op.equalIn]
  simp only [Sem.run_bind, run_underlying Tryz.underlying198, Result.andThen_ok]
  simp only [Std.Legacy.Range.forIn_eq_forIn_range', Std.Legacy.Range.size, Nat.sub_zero, Nat.add_sub_cancel, Nat.div_one, List.range'_succ, List.range'_zero, List.forIn_cons, List.forIn_nil]
  go_simp
  by_cases h0 : m0 = 0
  case neg => simp [h0]
  by_cases h1 : m1 = 0
  case neg => simp [h0, h1]
  by_cases h2 : m2 = 0
  case neg => simp [h0, h1, h2]
  by_cases h3 : m3 = 0
  case neg => simp [h0, h1, h2, h3]
  by_cases h4 : m4 = 0
  case neg => simp [h0, h1, h2, h3, h4]
  by_cases h5 : m5 = 0
  case neg => simp [h0, h1, h2, h3, h4, h5]
  by_cases h6 : m6 = 0
  case neg => simp [h0, h1, h2, h3, h4, h5, h6]
  by_cases h7 : m7 = 0
  case neg => simp [h0, h1, h2, h3, h4, h5, h6, h7]
  simp [h0, h1, h2, h3, h4, h5, h6, h7]
end Go.Proofs.YtjkdmhdehihcbaaGreatDoor

namespace Go.Proofs.YtjkdmhdehihcbaaGreatDoor
open Go.RowKit
structure Se where
  at_ : Int
  val : Int
deriving DecidableEq
def Se.cells (s : Se) : List Value := [.int .i64 s.at_, .int .i64 s.val]
def ses (ps : List Se) : List Value := ps.flatMap Se.cells
theorem Se.cells_len (s : Se) : s.cells.length = 2 := rfl
theorem ses_at0 (ps : List Se) (k : Nat) (h : k < ps.length) : (ses ps)[k * 2]? = some (.int .i64 ps[k].at_) := flatMap_at _ 2 Se.cells_len ps k 0 h (by omega)
theorem ses_at1 (ps : List Se) (k : Nat) (h : k < ps.length) : (ses ps)[k * 2 + 1]? = some (.int .i64 ps[k].val) := flatMap_at _ 2 Se.cells_len ps k 1 h (by omega)
def RdE (w : World) (v : Value) (ps : List Se) : Prop := Rd w 2 v ps.length (ses ps)
theorem RdE.shape {w : World} {v : Value} {ps : List Se} (h : RdE w v ps) : ∃ ao cap, v = .slice ao ps.length cap ∧ ps.length ≤ cap ∧ (0 < ps.length → ∃ b o, ao = some ⟨b, o, none⟩ ∧ b < w.heap.size ∧
    ∀ k (h : k < ps.length), w.cell? ⟨b, o + k * 2, none⟩ = some (.int .i64 ps[k].at_) ∧ w.cell? ⟨b, o + k * 2 + 1, none⟩ = some (.int .i64 ps[k].val)) := by
  obtain ⟨_, ao, cap, rfl, h2, h3⟩ := h
  refine ⟨ao, cap, rfl, h2.1, fun hn => ?_⟩
  obtain ⟨b, o, rfl, hb, hc⟩ := h3 hn
  exact ⟨b, o, rfl, hb, fun k hk => ⟨(hc (k * 2) (by omega)).trans (ses_at0 ps k hk), (hc (k * 2 + 1) (by omega)).trans (ses_at1 ps k hk)⟩⟩
end Go.Proofs.YtjkdmhdehihcbaaGreatDoor

namespace Go.Proofs.YtjkdmhdehihcbaaGreatDoor
open Go.RowKit
theorem infoUp : (Tryz.prog.info? 87).map (fun i => (i.zero, i.size, i.bytes)) = some (some (.agg #[.int .i64 0, .int .i64 0]), 2, 16) := by kernel_rfl
end Go.Proofs.YtjkdmhdehihcbaaGreatDoor

namespace Go.Proofs.YtjkdmhdehihcbaaGreatDoor
open Go.RowKit
structure St where
  at_ : Int
  val : Int
  fl : Bool
deriving DecidableEq
end Go.Proofs.YtjkdmhdehihcbaaGreatDoor

namespace Go.Proofs.YtjkdmhdehihcbaaGreatDoor
open Go.RowKit
theorem noBytes (s : ByteArray) : s.toList = [] ↔ s.size = 0 := by
  rw [ByteArray.toList_eq]
  obtain ⟨⟨x⟩⟩ := s
  show x = [] ↔ x.length = 0
  exact List.length_eq_zero_iff.symm
end Go.Proofs.YtjkdmhdehihcbaaGreatDoor

namespace Go.Proofs.YtjkdmhdehihcbaaGreatDoor
open Go.RowKit
def wordB (n : Int) : Bool := decide (0 ≤ n ∧ n < 1099511627776)
def placeB (n : Int) : Bool := decide (0 ≤ n ∧ n < 336)
def secB (n : Int) : Bool := decide (0 ≤ n ∧ n < 32)
theorem wordB_true {n : Int} (h : wordB n = true) : 0 ≤ n ∧ n < 1099511627776 := of_decide_eq_true h
theorem placeB_true {n : Int} (h : placeB n = true) : 0 ≤ n ∧ n < 336 := of_decide_eq_true h
theorem isWord_any (n : Int) (w : World) : Calls Tryz.prog 73 #[.int .i64 n] w fun e w' => e = .returned (.bool (wordB n)) ∧ w' = w := by
  by_cases h0 : 0 ≤ n
  · by_cases h1 : n < 1099511627776
    · have e : wordB n = true := decide_eq_true ⟨h0, h1⟩
      rw [e]; clear e
      go_enter Tryz.func73, Tryz.ntmps73
      go_wp2
      go_ret
      exact ⟨rfl, rfl⟩
    · have e : wordB n = false := decide_eq_false (fun h => h1 h.2)
      rw [e]; clear e
      go_enter Tryz.func73, Tryz.ntmps73
      go_wp2
      go_ret
      exact ⟨rfl, rfl⟩
  · have e : wordB n = false := decide_eq_false (fun h => h0 h.1)
    rw [e]; clear e
    go_enter Tryz.func73, Tryz.ntmps73
    go_wp2
    go_ret
    exact ⟨rfl, rfl⟩
theorem isPlace_any (n : Int) (w : World) : Calls Tryz.prog 72 #[.int .i64 n] w fun e w' => e = .returned (.bool (placeB n)) ∧ w' = w := by
  by_cases h0 : 0 ≤ n
  · by_cases h1 : n < 336
    · have e : placeB n = true := decide_eq_true ⟨h0, h1⟩
      rw [e]; clear e
      go_enter Tryz.func72, Tryz.ntmps72
      go_wp2
      go_ret
      exact ⟨rfl, rfl⟩
    · have e : placeB n = false := decide_eq_false (fun h => h1 h.2)
      rw [e]; clear e
      go_enter Tryz.func72, Tryz.ntmps72
      go_wp2
      go_ret
      exact ⟨rfl, rfl⟩
  · have e : placeB n = false := decide_eq_false (fun h => h0 h.1)
    rw [e]; clear e
    go_enter Tryz.func72, Tryz.ntmps72
    go_wp2
    go_ret
    exact ⟨rfl, rfl⟩
def inB (n lo hi : Int) : Bool := decide (lo ≤ n ∧ n ≤ hi)
theorem l01In_any (n lo hi : Int) (w : World) : Calls Tryz.prog 27 #[.int .i64 n, .int .i64 lo, .int .i64 hi] w fun e w' => e = .returned (.bool (inB n lo hi)) ∧ w' = w := by
  by_cases h0 : lo ≤ n
  · by_cases h1 : n ≤ hi
    · have e : inB n lo hi = true := decide_eq_true ⟨h0, h1⟩
      rw [e]; clear e
      go_enter Tryz.func27, Tryz.ntmps27
      go_wp2
      go_ret
      exact ⟨rfl, rfl⟩
    · have e : inB n lo hi = false := decide_eq_false (fun h => h1 h.2)
      rw [e]; clear e
      go_enter Tryz.func27, Tryz.ntmps27
      go_wp2
      go_ret
      exact ⟨rfl, rfl⟩
  · have e : inB n lo hi = false := decide_eq_false (fun h => h0 h.1)
    rw [e]; clear e
    go_enter Tryz.func27, Tryz.ntmps27
    go_wp2
    go_ret
    exact ⟨rfl, rfl⟩
theorem inB_word (n : Int) : inB n 0 1099511627775 = wordB n := by
  unfold inB wordB
  rw [decide_eq_decide]
  omega
theorem l01Word_any (n : Int) (w : World) : Calls Tryz.prog 28 #[.int .i64 n] w fun e w' => e = .returned (.bool (wordB n)) ∧ w' = w := by
  have E := hideIt (inB_word n)
  go_enter Tryz.func28, Tryz.ntmps28
  go_wp2_with fail
  refine (l01In_any n 0 1099511627775 _).mono ?_
  rw [E.out]
  rintro e w' ⟨rfl, rfl⟩
  go_wp2
  go_ret
  exact ⟨rfl, rfl⟩
def wordsB (zs : List Int) : Bool := decide (∀ k (h : k < zs.length), wordB zs[k] = true)
theorem wordsB_mk {zs : List Int} (h : ∀ k (h : k < zs.length), wordB zs[k] = true) : wordsB zs = true := decide_eq_true h
theorem wordsB_not {zs : List Int} {k : Nat} (hk : k < zs.length) (h : wordB zs[k] = false) : wordsB zs = false := decide_eq_false (fun x => by have := x k hk; rw [h] at this; cases this)
end Go.Proofs.YtjkdmhdehihcbaaGreatDoor
