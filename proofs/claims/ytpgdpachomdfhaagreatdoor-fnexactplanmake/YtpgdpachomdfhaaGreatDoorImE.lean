/- Entries: as the laws hand them on, and their updates by the model. -/
import Derived.Test.YtpgdpachomdfhaaGreatDoorImD
namespace Go.Proofs.YtpgdpachomdfhaaGreatDoor
open Go.RowKit

/-- An entry. -/
structure Den where
  dir : Int
  name : ByteArray
  child : Int
/-- An entry as a value. -/
def Den.v (x : Den) : Value := .agg #[.int .i64 x.dir, .string x.name, .int .i64 x.child]

set_option maxHeartbeats 1000000 in
theorem toDirent_any (x : Den) (w : World) : Calls Tryz.prog 61 #[x.v] w fun e w' => e = .returned x.v ∧ Below w.heap.size w w' := by
  unfold Den.v
  go_enter Tryz.func61, Tryz.ntmps61
  go_wp2
  refine bodyPost_ret (v := .agg #[.int .i64 x.dir, .string x.name, .int .i64 x.child]) (by simp [results, Tryz.results61, go_sem]) rfl ⟨rfl, ?_⟩
  repeat (refine Below.alloc ?_ (by simp <;> omega) _)
  exact Below.refl _ _

set_option maxHeartbeats 1000000 in
theorem szDirent_any (x : Den) (left : Int) (w : World) (hs : x.name.size ≤ maxLen) (h0 : 0 ≤ left) (h1 : left ≤ 1048576) : Calls Tryz.prog 49 #[x.v, .int .i64 left] w fun e w' => e = .returned (.int .i64 (if left < x.name.size then -1 else left - x.name.size)) ∧ Below w.heap.size w w' := by
  unfold Den.v
  unfold maxLen at hs
  by_cases c : left < x.name.size
  · rw [if_pos c]
    have c' : left - (x.name.size : Int) < 0 := by omega
    go_enter Tryz.func49, Tryz.ntmps49
    go_wp2
    go_ret
    refine ⟨rfl, ?_⟩
    repeat (refine Below.alloc ?_ (by simp <;> omega) _)
    exact Below.refl _ _
  · rw [if_neg c]
    have c' : ¬ left - (x.name.size : Int) < 0 := by omega
    go_enter Tryz.func49, Tryz.ntmps49
    go_wp2
    go_ret
    refine ⟨rfl, ?_⟩
    repeat (refine Below.alloc ?_ (by simp <;> omega) _)
    exact Below.refl _ _

/-- A free entry. -/
def Den.freeB (x : Den) : Bool := x.dir == 0 && (x.name.size == 0 && x.child == -1)
/-- An entry that can be written. -/
def Den.okB (x : Den) : Bool := x.freeB || (decide (1 ≤ x.child ∧ x.child ≤ 15) && (decide (0 ≤ x.dir ∧ x.dir ≤ 15) && nmB x.name))
/-- Its words. -/
def enL (k : Int) (x : Den) : List Se := [⟨240 + 3 * k, x.dir⟩, ⟨240 + 3 * k + 1, ((pk x.name x.name.size : Nat) : Int)⟩, ⟨240 + 3 * k + 2, x.child + 1⟩]

set_option maxRecDepth 100000 in
set_option maxHeartbeats 2000000 in
theorem l03Pack_none (s : ByteArray) (w : World) (hs : s.size = 0) : Calls Tryz.prog 91 #[.string s] w fun e w' => e = .returned (.int .i64 ((pk s s.size : Nat) : Int)) ∧ w' = w := by
  have E := hideIt (show ((pk s s.size : Nat) : Int) = 0 by rw [hs, pk_zero]; rfl)
  rw [E.out]
  go_enter Tryz.func91, Tryz.ntmps91
  go_wp2
  go_loop [3, 4] (fun n i => i = .int .i64 0 ∧ n = .int .i64 0) (fun _ i => 0)
  case atStart => exact ⟨rfl, rfl⟩
  case round =>
    obtain ⟨rfl, rfl⟩ := hrel
    go_wp2
    go_ret
    exact ⟨rfl, rfl⟩

set_option maxRecDepth 100000 in
set_option maxHeartbeats 2000000 in
theorem l05Entry_any (k : Int) (x : Den) (w : World) (hk : 0 ≤ k ∧ k < 24) (hc : -1 ≤ x.child ∧ x.child ≤ 15) (hn : x.name.size = 0 ∨ nmB x.name = true) :
    Calls Tryz.prog 59 #[.int .i64 k, x.v] w fun e w' => ∃ v', e = .returned v' ∧ Row w' 61 2 w.heap.size w'.heap.size v' (enL k x).length (ses (enL k x)) ∧ Below w.heap.size w w' := by
  have LP := hideIt (fun w1 => show Calls Tryz.prog 91 #[.string x.name] w1 fun e w' => e = .returned (.int .i64 ((pk x.name x.name.size : Nat) : Int)) ∧ w' = w1 by
    rcases hn with h | h
    · exact l03Pack_none _ _ h
    · exact l03Pack_any _ _ h)
  clear hn
  have EL := hideIt (show enL k x = [⟨240 + 3 * k, x.dir⟩, ⟨240 + 3 * k + 1, ((pk x.name x.name.size : Nat) : Int)⟩, ⟨240 + 3 * k + 2, x.child + 1⟩] from rfl)
  generalize ((pk x.name x.name.size : Nat) : Int) = p at LP EL
  obtain ⟨W, hW⟩ : ∃ W, W = w.alloc (.cells #[.int .i64 x.dir, .string x.name, .int .i64 x.child] 54) := ⟨_, rfl⟩
  have SK : Hid (∀ w', Below W.heap.size W w' → w'.cell? ⟨w.heap.size, 0, none⟩ = some (.int .i64 x.dir) ∧ w'.cell? ⟨w.heap.size, 1, none⟩ = some (.string x.name) ∧ w'.cell? ⟨w.heap.size, 2, none⟩ = some (.int .i64 x.child)) := fun w' hb => by
    have : w'.heap[w.heap.size]? = some (.cells #[.int .i64 x.dir, .string x.name, .int .i64 x.child] 54 (0, 0)) := (hb.block _ (by rw [hW]; simp)).trans (by rw [hW]; exact at_new rfl)
    exact three_cells this
  have BW : Hid (Below w.heap.size w W) := by rw [hW]; exact (Below.refl _ _).alloc (Nat.le_refl _) _
  have hz : w.heap.size ≤ W.heap.size := BW.out.size
  unfold Den.v
  go_enter Tryz.func59, Tryz.ntmps59
  go_wp2_with fail
  rw [← hW]
  clear hW
  go_region_held3 (fun w' => w'.cell? ⟨w.heap.size, 0, none⟩ = some (.int .i64 x.dir) ∧ w'.cell? ⟨w.heap.size, 1, none⟩ = some (.string x.name) ∧ w'.cell? ⟨w.heap.size, 2, none⟩ = some (.int .i64 x.child))
    (exact SK.out _ (by repeat (first | exact Below.refl _ _ | refine Below.drew ?_ | refine Below.alloc ?_ (by simp) _)))
    (first | (go_at_call 90; refine (l03Dirent_any _ _ _ hk (by omega)).mono ?_; rintro e w' ⟨rfl, hw'⟩; subst w') | (go_at_call 91; refine (LP.out _).mono ?_; rintro e w' ⟨rfl, hw'⟩; subst w'))
  have wp1 : IntKind.i64.wrap (x.child + 1) = x.child + 1 := by rw [IntKind.wrap_i64]; omega
  rw [wp1]
  have R : Hid (UpI W (W.alloc (.cells #[.int .i64 (240 + 3 * k), .int .i64 x.dir, .int .i64 (240 + 3 * k + 1), .int .i64 p, .int .i64 (240 + 3 * k + 2), .int .i64 (x.child + 1)] 61)).drew (.slice (some ⟨W.heap.size, 0, none⟩) 3 3) (enL k x)) := by
    show UpI _ _ _ _
    rw [EL.out]
    exact UpI.below (w := W.alloc (.cells #[.int .i64 (240 + 3 * k), .int .i64 x.dir, .int .i64 (240 + 3 * k + 1), .int .i64 p, .int .i64 (240 + 3 * k + 2), .int .i64 (x.child + 1)] 61)) ⟨World.ownsRow_lit W _ 3 (Nat.le_refl _) (by simp [maxLen]) rfl, (Below.refl _ _).alloc (Nat.le_refl _) _⟩ ((Below.refl _ _).drew)
  go_wp2
  go_ret
  exact ⟨_, rfl, (own_block R.out.l).wide hz (Nat.le_refl _), below_trans BW.out R.out.b hz⟩

theorem noBytes (s : ByteArray) : s.toList = [] ↔ s.size = 0 := by
  rw [ByteArray.toList_eq]
  obtain ⟨⟨x⟩⟩ := s
  show x = [] ↔ x.length = 0
  exact List.length_eq_zero_iff.symm
/-- The updates of an entry: the code, and the list. -/
def duC (k : Int) (x : Den) : Int := if 0 ≤ k ∧ k ≤ 23 then (if x.okB = true then 0 else 1) else 4
def duL (k : Int) (x : Den) : List Se := if 0 ≤ k ∧ k ≤ 23 then (if x.okB = true then enL k x else []) else []
theorem du_cases (k : Int) (x : Den) : (¬ (0 ≤ k ∧ k ≤ 23) ∧ duC k x = 4 ∧ duL k x = []) ∨ ((0 ≤ k ∧ k ≤ 23) ∧ x.okB = false ∧ duC k x = 1 ∧ duL k x = []) ∨ ((0 ≤ k ∧ k ≤ 23) ∧ x.okB = true ∧ duC k x = 0 ∧ duL k x = enL k x) := by
  unfold duC duL
  by_cases h : 0 ≤ k ∧ k ≤ 23
  · cases q : x.okB
    · exact .inr (.inl ⟨h, rfl, by rw [if_pos h, if_neg (by decide)], by rw [if_pos h, if_neg (by decide)]⟩)
    · exact .inr (.inr ⟨h, rfl, by rw [if_pos h, if_pos rfl], by rw [if_pos h, if_pos rfl]⟩)
  · exact .inl ⟨h, by rw [if_neg h], by rw [if_neg h]⟩
theorem duL_len (k : Int) (x : Den) : (duL k x).length ≤ 3 := by
  rcases du_cases k x with ⟨_, _, e⟩ | ⟨_, _, _, e⟩ | ⟨_, _, _, e⟩ <;> rw [e] <;> simp [enL]

end Go.Proofs.YtpgdpachomdfhaaGreatDoor
