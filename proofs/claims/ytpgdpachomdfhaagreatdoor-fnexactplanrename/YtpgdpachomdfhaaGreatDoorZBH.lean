/- Several texts laid together: PcC, PiP. -/
import Derived.Test.YtpgdpachomdfhaaGreatDoorZBG
import Derived.Test.YtpgdpachomdfhaaGreatDoorZBD
namespace Go.Proofs.YtpgdpachomdfhaaGreatDoor
open Go.RowKit

/-- What Lookup answers: of names, of a text. -/
def lkI (ws : List Ino) (ps : List Den) (s : ByteArray) : Int × Int := if spB s = true then wk ws ps 0 (spL s) else (0, 12)
def lkR (ws : List Ino) (ps : List Den) (s : ByteArray) : Int × Int := if 65536 < s.size then (0, 2) else if imgB ws ps = true then lkI ws ps s else (0, 1)
/-- What Parent answers. -/
def paN (ws : List Ino) (ps : List Den) (xs : List ByteArray) (x : ByteArray) : Int × ByteArray × Int := if (wk ws ps 0 xs).2 = 0 then (if kindAt ws (wk ws ps 0 xs).1 = 2 then ((wk ws ps 0 xs).1, x, 0) else (0, ⟨#[]⟩, 10)) else (0, ⟨#[]⟩, (wk ws ps 0 xs).2)
def paL (ws : List Ino) (ps : List Den) (ns : List ByteArray) : Int × ByteArray × Int := if ns = [] then (0, ⟨#[]⟩, 19) else paN ws ps ns.dropLast (ns.getLastD ⟨#[]⟩)
def paI (ws : List Ino) (ps : List Den) (s : ByteArray) : Int × ByteArray × Int := if spB s = true then paL ws ps (spL s) else (0, ⟨#[]⟩, 12)
def paR (ws : List Ino) (ps : List Den) (s : ByteArray) : Int × ByteArray × Int := if 65536 < s.size then (0, ⟨#[]⟩, 2) else if imgB ws ps = true then paI ws ps s else (0, ⟨#[]⟩, 1)
theorem paL_snoc (ws : List Ino) (ps : List Den) (xs : List ByteArray) (x : ByteArray) : paL ws ps (xs ++ [x]) = paN ws ps xs x := by
  unfold paL
  rw [if_neg (by simp), List.dropLast_concat]
  congr 1
  simp
theorem snoc_of {ns : List ByteArray} (h : ¬ ns = []) : ∃ xs x, ns = xs ++ [x] := ⟨ns.dropLast, ns.getLast h, (List.dropLast_concat_getLast h).symm⟩

set_option maxRecDepth 100000 in
set_option maxHeartbeats 4000000 in
theorem l06Lookup_any (v : Value) (ws : List Ino) (ps : List Den) (s : ByteArray) (w : World) (h : RdIm w v ws ps) (hi : imgB ws ps = true) (hs : s.size ≤ 65536) :
    Calls Tryz.prog 77 #[v, .string s] w fun e w' => e = .returned (.tuple #[.int .i64 (lkI ws ps s).1, .int .i64 (lkI ws ps s).2]) ∧ Below w.heap.size w w' := by
  have HR := hideIt h
  have LS := hideIt (fun w1 => l06Split_any s w1 hs)
  have LW := hideIt (fun vL w1 h hL => l06Walk_any v vL ws ps (spL s) w1 h hL hi (by have := @spL_len s; omega))
  have EL := hideIt (show lkI ws ps s = if spB s = true then wk ws ps 0 (spL s) else (0, 12) from rfl)
  obtain ⟨vW, vP, rfl, h1, h2⟩ := h
  obtain ⟨aW, cW, rfl, _, _⟩ := h1.shape
  obtain ⟨aP, cP, rfl, _, _⟩ := h2.shape
  clear h1 h2 hi
  have CA : Hid (∀ w', Below (w.alloc (.cells #[.slice aW ws.length cW, .slice aP ps.length cP] 33)).heap.size (w.alloc (.cells #[.slice aW ws.length cW, .slice aP ps.length cP] 33)) w' → w'.cell? ⟨w.heap.size, 0, none⟩ = some (.slice aW ws.length cW) ∧ w'.cell? ⟨w.heap.size, 1, none⟩ = some (.slice aP ps.length cP)) := fun w' hb => by
    have : w'.heap[w.heap.size]? = some (.cells #[.slice aW ws.length cW, .slice aP ps.length cP] 33 (0, 0)) := (hb.block _ (by simp)).trans (at_new rfl)
    exact ⟨(two_cells this).1, (two_cells this).2.1⟩
  have BW : Hid (Below w.heap.size w (w.alloc (.cells #[.slice aW ws.length cW, .slice aP ps.length cP] 33))) := (Below.refl _ _).alloc (Nat.le_refl _) _
  generalize lkI ws ps s = res at *
  generalize wk ws ps 0 (spL s) = rw0 at *
  cases c : spB s with
  | false =>
    rw [c] at LS EL
    obtain rfl := EL.out
    clear EL LW
    go_enter Tryz.func77, Tryz.ntmps77
    go_wp2_with fail
    refine (LS.out _).mono ?_
    rintro e w1 ⟨v1, rfl, hr1, hb1⟩
    have B1 := hideIt (below_trans BW.out hb1 BW.out.size)
    clear hr1 hb1
    go_wp2
    go_ret2
    exact ⟨rfl, B1.out⟩
  | true =>
    rw [c] at LS EL
    obtain rfl : res = rw0 := EL.out
    clear EL
    go_enter Tryz.func77, Tryz.ntmps77
    go_wp2_with fail
    refine (LS.out _).mono ?_
    rintro e w1 ⟨v1, rfl, hr1, hb1⟩
    have B1 := hideIt (below_trans BW.out hb1 BW.out.size)
    obtain ⟨x0, x1⟩ := CA.out _ hb1
    have R1 := hideIt hr1
    clear hr1 hb1
    go_wp2_with fail
    refine (LW.out _ _ (HR.out.below B1.out) R1.out).mono ?_
    rintro e w2 ⟨rfl, hb2⟩
    have B2 := hideIt (below_trans B1.out hb2 B1.out.size)
    clear hb2 x0 x1
    go_wp2
    go_ret2
    exact ⟨rfl, B2.out⟩

end Go.Proofs.YtpgdpachomdfhaaGreatDoor

namespace Go.Proofs.YtpgdpachomdfhaaGreatDoor
open Go.RowKit

/-- The first number below a bound that is asked for, -1 without one. -/
def firstIx (p : Nat → Bool) (n : Nat) : Int := match (List.range n).find? p with | some i => (i : Int) | none => -1
theorem first_at {p : Nat → Bool} {n k : Nat} (hk : k < n) (h : ∀ j, j < k → p j = false) (e : p k = true) : firstIx p n = (k : Int) := by
  have : (List.range n).find? p = some k := List.find?_range_eq_some.2 ⟨e, List.mem_range.2 hk, fun j hj => by rw [h j hj]; rfl⟩
  unfold firstIx
  rw [this]
theorem first_none {p : Nat → Bool} {n : Nat} (h : ∀ j, j < n → p j = false) : firstIx p n = -1 := by
  have : (List.range n).find? p = none := List.find?_eq_none.2 (fun j hj => by rw [h j (List.mem_range.1 hj)]; decide)
  unfold firstIx
  rw [this]
theorem first_bound (p : Nat → Bool) (n : Nat) : -1 ≤ firstIx p n ∧ firstIx p n < n := by
  unfold firstIx
  split
  · rename_i i h
    have := List.mem_range.1 (List.mem_of_find?_eq_some h)
    omega
  · omega
theorem first_congr {p q : Nat → Bool} {n : Nat} (h : ∀ j, j < n → p j = q j) : firstIx p n = firstIx q n := by
  rcases Classical.em (∃ k, k < n ∧ p k = true ∧ ∀ j, j < k → p j = false) with ⟨k, hk, e, f⟩ | hn
  · rw [first_at hk f e, first_at hk (fun j hj => by rw [← h j (by omega)]; exact f j hj) (by rw [← h k hk]; exact e)]
  · have a : ∀ m, m ≤ n → ∀ j, j < m → p j = false := by
      intro m
      induction m with
      | zero => intro _ j hj; omega
      | succ m ih =>
        intro hm j hj
        by_cases e : j = m
        · subst e
          cases hp : p j with
          | false => rfl
          | true => exact absurd ⟨j, by omega, hp, ih (by omega)⟩ hn
        · exact ih (by omega) j (by omega)
    rw [first_none (a n (Nat.le_refl _)), first_none (fun j hj => by rw [← h j hj]; exact a n (Nat.le_refl _) j hj)]
/-- What is told of a number that was looked for. -/
def tellV (r : Int) : Int := if r < 0 then 0 else r
def tellC (r : Int) : Int := if r < 0 then 7 else 0
/-- What is used, of a tier. -/
def ubC (b : Bool) (t : Int) : Int := if b = true then (if t = 1 ∨ t = 2 then 0 else 4) else 1
def ubL (b : Bool) (ms : List Int) (t : Int) : List Int := if b = true ∧ (t = 1 ∨ t = 2) then usedOf ms t else []
theorem img_parts {ws : List Ino} {ps : List Den} (h : imgB ws ps = true) : ws.length = 16 ∧ ps.length = 24 ∧ kindAt ws 0 = 2 ∧ okNs ws = true := by
  unfold imgB at h
  simp only [Bool.and_eq_true, decide_eq_true_eq, beq_iff_eq] at h
  exact ⟨h.1, h.2.1, h.2.2.1, h.2.2.2.1⟩
theorem img_small {ws : List Ino} {ps : List Den} (h : imgB ws ps = true) : ∀ k (h : k < ws.length), ∀ z ∈ ws[k].map, 0 ≤ z ∧ z ≤ 1048576 := fun k hk z hz => tie_small (okNs_ties (img_parts h).2.2.2 k hk z hz)
theorem row_none3 (w : World) : Row (w.alloc (.cells #[] 3)) 3 1 w.heap.size (w.alloc (.cells #[] 3)).heap.size (.slice (some ⟨w.heap.size, 0, none⟩) 0 0) 0 [] :=
  own_block (World.ownsRow_lit w #[] 0 (Nat.le_refl _) (by simp [maxLen]) (by simp))

theorem used_succ {l : List Int} {t : Int} {k : Nat} (hk : k < l.length) : usedOf (l.take (k + 1)) t = if l[k] % 4 = t then usedOf (l.take k) t ++ [l[k] / 4] else usedOf (l.take k) t := by
  unfold usedOf
  rw [List.take_succ_eq_append_getElem hk, List.filter_append, List.map_append]
  by_cases h : l[k] % 4 = t
  · rw [if_pos h]; simp [h]
  · rw [if_neg h]; simp [h]

end Go.Proofs.YtpgdpachomdfhaaGreatDoor
