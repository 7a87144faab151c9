/- Several texts laid together: PiQ, PaB. -/
import Derived.Test.YtlgghookekokaaaGreatDoorZAS
import Derived.Test.YtlgghookekokaaaGreatDoorZAR
namespace Go.Proofs.YtlgghookekokaaaGreatDoor
open Go.RowKit

set_option maxRecDepth 100000 in
set_option maxHeartbeats 4000000 in
theorem l05Free_any (v : Value) (ws : List Ino) (ps : List Den) (t : Int) (n : Nat) (w : World) (h : RdIm w v ws ps) (hl : ws.length ≤ 4096) (hr : ∀ k (h : k < ws.length), ∀ z ∈ ws[k].map, 0 ≤ z ∧ z ≤ 1048576) (hn : n ≤ 1000) :
    Calls Tryz.prog 214 #[v, .int .i64 t, .int .i64 (n : Int)] w fun e w' => e = .returned (.int .i64 (firstIx (fun i => !hasB (usedOf (mapped ws) t) (i : Int)) n)) ∧ Below w.heap.size w w' := by
  have HRD := hideIt h
  have LU := hideIt (fun w1 h => l05Used_any v ws ps t w1 h hl hr)
  have UL : (usedOf (mapped ws) t).length ≤ 1048576 := by have := usedOf_len (mapped ws) t; have := mapped_len ws; omega
  obtain ⟨vW, vP, rfl, h1, h2⟩ := h
  obtain ⟨aW, cW, rfl, _, hcW⟩ := h1.shape
  obtain ⟨aP, cP, rfl, _, _⟩ := h2.shape
  clear h1 h2 hcW hr
  have CA : Hid (∀ w', Below (w.alloc (.cells #[.slice aW ws.length cW, .slice aP ps.length cP] 26)).heap.size (w.alloc (.cells #[.slice aW ws.length cW, .slice aP ps.length cP] 26)) w' → w'.cell? ⟨w.heap.size, 0, none⟩ = some (.slice aW ws.length cW) ∧ w'.cell? ⟨w.heap.size, 1, none⟩ = some (.slice aP ps.length cP)) := fun w' hb => by
    have : w'.heap[w.heap.size]? = some (.cells #[.slice aW ws.length cW, .slice aP ps.length cP] 26 (0, 0)) := (hb.block _ (by simp)).trans (at_new rfl)
    exact ⟨(two_cells this).1, (two_cells this).2.1⟩
  have BW : Hid (Below w.heap.size w (w.alloc (.cells #[.slice aW ws.length cW, .slice aP ps.length cP] 26))) := (Below.refl _ _).alloc (Nat.le_refl _) _
  obtain ⟨x0, x1⟩ := CA.out _ (Below.refl _ _)
  generalize usedOf (mapped ws) t = zs at *
  go_enter Tryz.func214, Tryz.ntmps214
  go_wp2_with fail
  refine (LU.out _ (HRD.out.below BW.out)).mono ?_
  rintro e w1 ⟨v1, rfl, hr1, hb1⟩
  obtain ⟨-, aL, cL, hvL, -⟩ := hr1.rd
  subst hvL
  have R1 : Hid (RdI w1 (.slice aL zs.length cL) zs) := hr1.rd
  have B1 := hideIt (below_trans BW.out hb1 BW.out.size)
  clear hr1 hb1 x0 x1 CA
  go_wp2
  go_loopw [8] (fun i wr => ∃ k : Nat, k ≤ n ∧ i = .int .i64 k ∧ wr = w1 ∧ Hid (∀ j, j < k → (!hasB zs (j : Int)) = false)) (fun i _ => n - (intOf i).toNat)
  case atStart => exact ⟨0, by omega, rfl, rfl, fun j a => absurd a (by omega)⟩
  case round =>
    obtain ⟨k, hk, rfl, rfl, H⟩ := hrel
    have k0 : (0 : Int) ≤ (k : Int) := by omega
    by_cases hlt : k < n
    · have k1 : (k : Int) < (n : Int) := by omega
      have LH := hideIt (l05Has_any (.slice aL zs.length cL) zs (k : Int) _ R1.out UL)
      cases q : hasB zs (k : Int) with
      | true =>
        have H' : Hid (∀ j, j < k + 1 → (!hasB zs (j : Int)) = false) := fun j a => by
          by_cases e : j = k
          · subst e; rw [q]; rfl
          · exact H.out j (by omega)
        rw [q] at LH
        clear q H
        go_wp2_with (go_at_call 157; refine LH.out.mono ?_; rintro e w' ⟨rfl, rfl⟩)
        go_roundw
        case rel => exact ⟨k + 1, by omega, by go_num, trivial, H'⟩
        case measure => simp [intOf]; omega
      | false =>
        have E := hideIt (first_at (p := fun i => !hasB zs (i : Int)) hlt H.out (by rw [q]; rfl))
        rw [q] at LH
        clear q H
        go_wp2_with (go_at_call 157; refine LH.out.mono ?_; rintro e w' ⟨rfl, rfl⟩)
        go_ret
        exact ⟨ret_int E.out.symm, B1.out⟩
    · have E := hideIt (first_none (p := fun i => !hasB zs (i : Int)) (n := n) (fun j hj => H.out j (by omega)))
      clear H
      go_wp2
      go_ret
      exact ⟨ret_int E.out.symm, B1.out⟩

set_option maxRecDepth 100000 in
set_option maxHeartbeats 4000000 in
theorem l05FreeInode_any (v : Value) (ws : List Ino) (ps : List Den) (w : World) (h : RdIm w v ws ps) (hl : ws.length ≤ 4096) :
    Calls Tryz.prog 250 #[v] w fun e w' => e = .returned (.int .i64 (firstIx (fun i => decide (1 ≤ i) && kindAt ws (i : Int) == 0) ws.length)) ∧ Below w.heap.size w w' := by
  obtain ⟨vW, vP, rfl, h1, h2⟩ := h
  obtain ⟨aW, cW, rfl, _, hcW⟩ := h1.shape
  obtain ⟨aP, cP, rfl, _, _⟩ := h2.shape
  have HW := hideIt hcW
  clear h1 h2 hcW
  have CA : Hid (∀ w', Below (w.alloc (.cells #[.slice aW ws.length cW, .slice aP ps.length cP] 26)).heap.size (w.alloc (.cells #[.slice aW ws.length cW, .slice aP ps.length cP] 26)) w' → w'.cell? ⟨w.heap.size, 0, none⟩ = some (.slice aW ws.length cW) ∧ w'.cell? ⟨w.heap.size, 1, none⟩ = some (.slice aP ps.length cP)) := fun w' hb => by
    have : w'.heap[w.heap.size]? = some (.cells #[.slice aW ws.length cW, .slice aP ps.length cP] 26 (0, 0)) := (hb.block _ (by simp)).trans (at_new rfl)
    exact ⟨(two_cells this).1, (two_cells this).2.1⟩
  have BW : Hid (Below w.heap.size w (w.alloc (.cells #[.slice aW ws.length cW, .slice aP ps.length cP] 26))) := (Below.refl _ _).alloc (Nat.le_refl _) _
  obtain ⟨x0, x1⟩ := CA.out _ (Below.refl _ _)
  clear x0 x1
  obtain ⟨W, hW⟩ : ∃ W, W = w.alloc (.cells #[.slice aW ws.length cW, .slice aP ps.length cP] 26) := ⟨_, rfl⟩
  rw [← hW] at CA BW
  obtain ⟨y0, y1⟩ := CA.out _ (Below.refl _ _)
  go_enter Tryz.func250, Tryz.ntmps250
  go_wp2
  rw [← hW]
  clear hW
  go_loopw [3] (fun i wr => ∃ k : Nat, (1 ≤ k ∧ (k ≤ ws.length ∨ k = 1)) ∧ i = .int .i64 k ∧ wr = W ∧ Hid (∀ j, j < k → (decide (1 ≤ j) && kindAt ws (j : Int) == 0) = false)) (fun i _ => ws.length + 1 - (intOf i).toNat)
  case atStart => exact ⟨1, by omega, rfl, rfl, fun j a => by rw [decide_eq_false (by omega)]; rfl⟩
  case round =>
    obtain ⟨k, hk, rfl, rfl, H⟩ := hrel
    have k0 : (0 : Int) ≤ (k : Int) := by omega
    by_cases hlt : k < ws.length
    · obtain ⟨b, o, rfl, hbl, hcell⟩ := HW.out (by omega)
      have d0 := (BW.out.cell (p := ⟨b, o + k * 11, none⟩) hbl).trans (hcell k hlt).1
      rw [← kindAt_of hlt] at d0
      have k1 : (k : Int) < (ws.length : Int) := by omega
      have P := hideIt (show (decide (1 ≤ k) && kindAt ws (k : Int) == 0) = (kindAt ws (k : Int) == 0) by rw [decide_eq_true hk.1]; rfl)
      clear hcell
      cases q : (kindAt ws (k : Int) == 0) with
      | true =>
        have E := hideIt (first_at (p := fun i => decide (1 ≤ i) && kindAt ws (i : Int) == 0) hlt H.out (by show (decide (1 ≤ k) && kindAt ws (k : Int) == 0) = true; rw [P.out, q]))
        clear H P
        generalize kindAt ws (k : Int) = z at d0 q
        go_wp2
        go_ret
        exact ⟨ret_int E.out.symm, BW.out⟩
      | false =>
        have H' : Hid (∀ j, j < k + 1 → (decide (1 ≤ j) && kindAt ws (j : Int) == 0) = false) := fun j a => by
          by_cases e : j = k
          · subst e; rw [P.out, q]
          · exact H.out j (by omega)
        clear H P
        generalize kindAt ws (k : Int) = z at d0 q
        go_wp2
        go_roundw
        case rel => exact ⟨k + 1, by omega, by go_num, trivial, H'⟩
        case measure => simp [intOf]; omega
    · have E := hideIt (first_none (p := fun i => decide (1 ≤ i) && kindAt ws (i : Int) == 0) (n := ws.length) (fun j hj => H.out j (by omega)))
      have k2 : ¬ (k : Int) < (ws.length : Int) := by omega
      clear H
      go_wp2
      go_ret
      exact ⟨ret_int E.out.symm, BW.out⟩

/-- The inode that has none. -/
def zeroN : Ino := ⟨0, 0, 0, 0, 0, 0, 0, 0, 0, 0, 0⟩

end Go.Proofs.YtlgghookekokaaaGreatDoor

namespace Go.Proofs.YtlgghookekokaaaGreatDoor
open Go.RowKit

set_option maxRecDepth 100000 in
set_option maxHeartbeats 2000000 in
theorem l06Beneath_any (v : Value) (ws : List Ino) (ps : List Den) (a b : Int) (w : World) (h : RdIm w v ws ps) (hn : ps.length ≤ 1048576) :
    Calls Tryz.prog 252 #[v, .int .i64 a, .int .i64 b] w fun e w' => e = .returned (.bool (benN ps 17 a b)) ∧ Below w.heap.size w w' := by
  have HR := hideIt h
  obtain ⟨vW, vP, rfl, h1, h2⟩ := h
  obtain ⟨aW, cW, rfl, _⟩ := h1.shape
  obtain ⟨aP, cP, rfl, _, hcP⟩ := h2.shape
  clear h1 h2 hcP
  obtain ⟨W, hW⟩ : ∃ W, W = w.alloc (.cells #[.slice aW ws.length cW, .slice aP ps.length cP] 26) := ⟨_, rfl⟩
  have CA : Hid (∀ w', Below W.heap.size W w' → w'.cell? ⟨w.heap.size, 0, none⟩ = some (.slice aW ws.length cW) ∧ w'.cell? ⟨w.heap.size, 1, none⟩ = some (.slice aP ps.length cP)) := fun w' hb => by
    have : w'.heap[w.heap.size]? = some (.cells #[.slice aW ws.length cW, .slice aP ps.length cP] 26 (0, 0)) := (hb.block _ (by rw [hW]; simp)).trans (by rw [hW]; exact at_new rfl)
    exact ⟨(two_cells this).1, (two_cells this).2.1⟩
  have BW : Hid (Below w.heap.size w W) := by rw [hW]; exact (Below.refl _ _).alloc (Nat.le_refl _) _
  have hz : w.heap.size ≤ W.heap.size := BW.out.size
  have LU := hideIt (fun d w1 h => l05Up_any (.agg #[.slice aW ws.length cW, .slice aP ps.length cP]) ws ps d w1 h hn)
  go_enter Tryz.func252, Tryz.ntmps252
  go_wp2
  rw [← hW]
  clear hW
  go_loopw [1, 7] (fun d i wr => ∃ (k : Nat) (z : Int), k ≤ 17 ∧ i = .int .i64 k ∧ d = .int .i64 z ∧ Hid (Below W.heap.size W wr ∧ benN ps 17 a b = benN ps (17 - k) z b)) (fun _ i _ => 17 - (intOf i).toNat)
  case atStart => exact ⟨0, a, by omega, rfl, rfl, Below.refl _ _, rfl⟩
  case round =>
    obtain ⟨k, z, hk, rfl, rfl, J⟩ := hrel
    obtain ⟨x0, x1⟩ := CA.out wr J.out.1
    have B := hideIt (below_trans BW.out J.out.1 hz)
    by_cases hlt : k < 17
    · have ES := hideIt (show benN ps (17 - k) z b = if z < 0 then false else if z = b then true else benN ps (17 - (k + 1)) (upD ps z) b by
        rw [show 17 - k = (17 - (k + 1)) + 1 by omega]; rfl)
      have k16 : (k : Int) ≤ 16 := by omega
      by_cases q : z < 0
      · have E := hideIt (show benN ps 17 a b = false by rw [J.out.2, ES.out, if_pos q])
        have q1 : ¬ z ≥ 0 := by omega
        clear ES J
        go_wp2
        go_ret
        exact ⟨ret_bool E.out.symm, B.out⟩
      · have q1 : z ≥ 0 := by omega
        by_cases r : z = b
        · subst r
          have E := hideIt (show benN ps 17 a z = true by rw [J.out.2, ES.out, if_neg q, if_pos rfl])
          clear ES J
          go_wp2
          go_ret
          exact ⟨ret_bool E.out.symm, B.out⟩
        · have r1 : (z == b) = false := beq_eq_false_iff_ne.2 r
          have R := hideIt (HR.out.below B.out)
          have E := hideIt (show benN ps 17 a b = benN ps (17 - (k + 1)) (upD ps z) b by rw [J.out.2, ES.out, if_neg q, if_neg r])
          have J1 := hideIt J.out.1
          clear ES J q r
          go_wp2_with fail
          refine (LU.out _ _ R.out).mono ?_
          rintro e w1 ⟨rfl, hb1⟩
          have B1 := hideIt (below_trans J1.out hb1 J1.out.size)
          clear hb1
          go_wp2
          go_roundw
          case rel => exact ⟨k + 1, _, by omega, by go_num, rfl, B1.out, E.out⟩
          case measure => simp [intOf]; omega
    · obtain rfl : k = 17 := by omega
      have E := hideIt (show benN ps 17 a b = false by rw [J.out.2]; rfl)
      clear J
      go_wp2
      go_ret
      exact ⟨ret_bool E.out.symm, B.out⟩

end Go.Proofs.YtlgghookekokaaaGreatDoor
