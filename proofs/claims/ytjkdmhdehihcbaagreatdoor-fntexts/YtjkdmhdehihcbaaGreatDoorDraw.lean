/- The source of choices: a byte, a number, a word. -/
import Derived.Test.YtjkdmhdehihcbaaGreatDoorZAC
import Derived.BigRegion
import Derived.BigQuiet
import Derived.Deep.QuietTactic
namespace Go.Proofs.YtjkdmhdehihcbaaGreatDoor
open Go.RowKit
def bys (zs : List Int) : List Value := zs.map (Value.int .u8)
theorem bys_at (zs : List Int) (k : Nat) (h : k < zs.length) : (bys zs)[k]? = some (.int .u8 zs[k]) := by simp [bys, h]
def RdB (w : World) (v : Value) (zs : List Int) : Prop := Rd w 1 v zs.length (bys zs) ∧ ∀ k (h : k < zs.length), 0 ≤ zs[k] ∧ zs[k] < 256
theorem RdB.shape {w : World} {v : Value} {zs : List Int} (h : RdB w v zs) : ∃ ao cap, v = .slice ao zs.length cap ∧ zs.length ≤ cap ∧ (0 < zs.length → ∃ b o, ao = some ⟨b, o, none⟩ ∧ b < w.heap.size ∧ ∀ k (h : k < zs.length), w.cell? ⟨b, o + k, none⟩ = some (.int .u8 zs[k])) := by
  obtain ⟨⟨_, ao, cap, rfl, h2, h3⟩, _⟩ := h
  refine ⟨ao, cap, rfl, h2.1, fun hn => ?_⟩
  obtain ⟨b, o, rfl, hb, hc⟩ := h3 hn
  exact ⟨b, o, rfl, hb, fun k hk => (hc k (by omega)).trans (bys_at zs k hk)⟩
theorem RdB.below {w w' : World} {v : Value} {zs : List Int} (h : RdB w v zs) (hb : Below w.heap.size w w') : RdB w' v zs := ⟨h.1.below hb, h.2⟩
theorem src_cells {w : World} {b : Nat} {x y z : Value} {t : TypeId} (h : w.heap[b]? = some (.cells #[x, y, z] t (0, 0))) :
    w.cell? ⟨b, 0, none⟩ = some x ∧ w.cell? ⟨b, 1, none⟩ = some y ∧ w.cell? ⟨b, 2, none⟩ = some z ∧ ∀ j, w.frozen? ⟨b, j, none⟩ = false := by
  refine ⟨?_, ?_, ?_, fun j => ?_⟩ <;> simp [World.cell?, World.frozen?, h]
structure Src (w0 w : World) (b : Nat) (vC : Value) (bs : List Int) (k : Nat) : Prop where
  code : RdB w0 vC bs
  len : bs.length ≤ 1048576
  old : w0.heap.size ≤ b
  below : Below w0.heap.size w0 w
  size : b < w.heap.size
  cells : ∃ at_ seed : Int, 0 ≤ at_ ∧ at_ ≤ k ∧ 0 ≤ seed ∧ seed < 2147483648 ∧ w.heap[b]? = some (.cells #[vC, .int .i64 at_, .int .i64 seed] 104 (0, 0))
theorem Src.outside {w0 w w' : World} {b k : Nat} {vC : Value} {bs : List Int} (h : Src w0 w b vC bs k) {lo hi : Nat} (ho : Outside lo hi w w') (hl : b < lo ∨ hi ≤ b) (hl2 : w0.heap.size ≤ lo) : Src w0 w' b vC bs k :=
  ⟨h.code, h.len, h.old, h.below.trans (ho.below hl2 h.below.size), Nat.lt_of_lt_of_le h.size ho.size, by
    obtain ⟨a, s, h1, h2, h3, h4, h5⟩ := h.cells
    exact ⟨a, s, h1, h2, h3, h4, (ho.block b h.size hl).trans h5⟩⟩
theorem Src.newer {w0 w w' : World} {b k : Nat} {vC : Value} {bs : List Int} (h : Src w0 w b vC bs k) (hb : Below w.heap.size w w') : Src w0 w' b vC bs k :=
  h.outside (lo := w.heap.size) (hi := w'.heap.size) (Outside.of_below hb) (.inl h.size) h.below.size
theorem Outside.drewN {lo hi : Nat} {a w : World} (h : Outside lo hi a w) (n : Nat) : Outside lo hi a (w.drewN n) := by
  induction n with
  | zero => exact h
  | succ n ih => exact ⟨ih.os, ih.tape, ih.output, ih.size, ih.block⟩
theorem src_set1 {w : World} {b : Nat} {x y z : Value} {t : TypeId} (h : w.heap[b]? = some (.cells #[x, y, z] t (0, 0))) (u : Value) : (w.setCell ⟨b, 1, none⟩ u).heap[b]? = some (.cells #[x, u, z] t (0, 0)) := by
  simp [World.setCell, Array.getElem?_modify, h]
theorem src_set2 {w : World} {b : Nat} {x y z : Value} {t : TypeId} (h : w.heap[b]? = some (.cells #[x, y, z] t (0, 0))) (u : Value) : (w.setCell ⟨b, 2, none⟩ u).heap[b]? = some (.cells #[x, y, u] t (0, 0)) := by
  simp [World.setCell, Array.getElem?_modify, h]
theorem Src.set {w0 w w' : World} {b k k' : Nat} {vC : Value} {bs : List Int} (h : Src w0 w b vC bs k) (ho : Outside b (b + 1) w w') {at_ seed : Int} (h1 : 0 ≤ at_) (h2 : at_ ≤ k') (h3 : 0 ≤ seed) (h4 : seed < 2147483648) (h5 : w'.heap[b]? = some (.cells #[vC, .int .i64 at_, .int .i64 seed] 104 (0, 0))) : Src w0 w' b vC bs k' :=
  ⟨h.code, h.len, h.old, h.below.trans (ho.below h.old h.below.size), Nat.lt_of_lt_of_le h.size ho.size, ⟨at_, seed, h1, h2, h3, h4, h5⟩⟩
theorem Src.more {w0 w : World} {b k k' : Nat} {vC : Value} {bs : List Int} (h : Src w0 w b vC bs k) (hk : k ≤ k') : Src w0 w b vC bs k' :=
  ⟨h.code, h.len, h.old, h.below, h.size, by obtain ⟨a, s, h1, h2, h3⟩ := h.cells; exact ⟨a, s, h1, by omega, h3⟩⟩
theorem size_set (w : World) (a : Addr) (u : Value) : (w.setCell a u).heap.size = w.heap.size := by simp [World.setCell]
theorem heap_drewN (w : World) (n : Nat) : (w.drewN n).heap = w.heap := by
  induction n with
  | zero => rfl
  | succ n ih => exact ih
def byteR (bs : List Int) (m : Nat) (seed : Int) : Int := if m < bs.length then bs[m]?.getD 0 else if 3000 < m + 1 then 0 else (seed * 1103515245 + 12345) % 2147483648 / 65536 % 256
def byteS (bs : List Int) (m : Nat) (seed : Int) : Int := if m < bs.length then (seed * 31 + bs[m]?.getD 0 + 7) % 2147483648 else if 3000 < m + 1 then seed else (seed * 1103515245 + 12345) % 2147483648
theorem byte_in {bs : List Int} {m : Nat} (seed : Int) (h : m < bs.length) : byteR bs m seed = bs[m] ∧ byteS bs m seed = (seed * 31 + bs[m] + 7) % 2147483648 := by
  unfold byteR byteS; rw [if_pos h, if_pos h]; simp [h]
theorem byte_far {bs : List Int} {m : Nat} (seed : Int) (h : ¬ m < bs.length) (h2 : 3000 < m + 1) : byteR bs m seed = 0 ∧ byteS bs m seed = seed := by
  unfold byteR byteS; rw [if_neg h, if_neg h, if_pos h2, if_pos h2]; exact ⟨rfl, rfl⟩
theorem byte_near {bs : List Int} {m : Nat} (seed : Int) (h : ¬ m < bs.length) (h2 : ¬ 3000 < m + 1) : byteR bs m seed = (seed * 1103515245 + 12345) % 2147483648 / 65536 % 256 ∧ byteS bs m seed = (seed * 1103515245 + 12345) % 2147483648 := by
  unfold byteR byteS; rw [if_neg h, if_neg h, if_neg h2, if_neg h2]; exact ⟨rfl, rfl⟩
structure SrcE (w0 w : World) (b : Nat) (vC : Value) (bs : List Int) (m : Nat) (seed : Int) : Prop where
  src : Src w0 w b vC bs m
  s0 : 0 ≤ seed
  s1 : seed < 2147483648
  cells : w.heap[b]? = some (.cells #[vC, .int .i64 (m : Int), .int .i64 seed] 104 (0, 0))
theorem SrcE.set {w0 w w' : World} {b m : Nat} {vC : Value} {bs : List Int} {seed seed' : Int} (h : SrcE w0 w b vC bs m seed) (ho : Outside b (b + 1) w w') (h3 : 0 ≤ seed') (h4 : seed' < 2147483648) (h5 : w'.heap[b]? = some (.cells #[vC, .int .i64 ((m : Int) + 1), .int .i64 seed'] 104 (0, 0))) : SrcE w0 w' b vC bs (m + 1) seed' :=
  ⟨h.src.set ho (at_ := (m : Int) + 1) (seed := seed') (by omega) (by omega) h3 h4 h5, h3, h4, h5⟩
set_option maxRecDepth 100000 in
set_option maxHeartbeats 8000000 in
theorem srcByte_exact (w0 w : World) (b m : Nat) (vC : Value) (bs : List Int) (seed : Int) (h : SrcE w0 w b vC bs m seed) (hk : m ≤ 1000000) :
    Calls Tryz.prog 102 #[.pointer (some ⟨b, 0, none⟩)] w fun e w' => e = .returned (.int .i64 (byteR bs m seed)) ∧ SrcE w0 w' b vC bs (m + 1) (byteS bs m seed) ∧ Outside b (b + 1) w w' ∧ w'.heap.size = w.heap.size := by
  have HS := hideIt h
  obtain ⟨hsrc, s0, s1, hblk⟩ := h
  obtain ⟨aC, cC, rfl, _, hcC⟩ := hsrc.code.shape
  obtain ⟨c0, c1, c2, c3⟩ := src_cells hblk
  have f1 := c3 1
  have hlen := hsrc.len
  have NB := hideIt (src_set1 hblk (.int .i64 ((m : Int) + 1)))
  have O1 := hideIt ((Outside.refl b (b + 1) w).setCell (a := ⟨b, 1, none⟩) (Nat.le_refl _) (by simp) (.int .i64 ((m : Int) + 1)))
  have B1 := hideIt (hsrc.below.trans (O1.out.below hsrc.old hsrc.below.size))
  have hold := hsrc.old
  clear hsrc hblk c3
  go_enter Tryz.func102, Tryz.ntmps102
  go_wp2_with fail
  clear c0 c1 c2 f1
  generalize hw1 : w.setCell ⟨b, 1, none⟩ (.int .i64 ((m : Int) + 1)) = w1 at *
  have hz1 : w1.heap.size = w.heap.size := by rw [← hw1]; exact size_set _ _ _
  obtain ⟨c0, c1, c2, c3⟩ := src_cells NB.out
  have f2 := c3 2
  clear c3 hw1
  by_cases c : m < bs.length
  · obtain ⟨bc, oc, rfl, hbc, hcc⟩ := hcC (by omega)
    have x0 := (B1.out.cell (p := ⟨bc, oc + m, none⟩) hbc).trans (hcc m c)
    obtain ⟨x1, x2⟩ := HS.out.src.code.2 m c
    clear hcC hcc
    obtain ⟨E1, E2⟩ := byte_in seed c
    have EE := hideIt (And.intro E1 E2)
    clear E1 E2
    generalize bs[m] = x at *
    have cc : ((m : Int) + 1) ≤ (bs.length : Int) := by omega
    have c4 : (m : Int) < (bs.length : Int) := by omega
    have c5 : (0 : Int) ≤ (m : Int) := by omega
    go_quiet (fail)
    go_wp2_with fail
    generalize hw2 : w1.drewN _ = w2
    have e2 : w2.heap = w1.heap := by rw [← hw2]; exact heap_drewN _ _
    have O2 : Hid (Outside b (b + 1) w w2) := by rw [← hw2]; exact O1.out.drewN _
    have NB2 : Hid (w2.heap[b]? = some (.cells #[.slice (some ⟨bc, oc, none⟩) bs.length cC, .int .i64 ((m : Int) + 1), .int .i64 seed] 104 (0, 0))) := by rw [e2]; exact NB.out
    have x2' := (World.cell?_of_block (w := w1) (a := ⟨bc, oc + m, none⟩) (by rw [e2])).trans x0
    clear c0 c1 c2 f2 x0
    obtain ⟨c0, c1, c2, c3⟩ := src_cells NB2.out
    have f2 := c3 2
    have hz2 : w2.heap.size = w.heap.size := by rw [e2]; exact hz1
    clear c3 hw2 e2
    go_region
    go_wp2_with fail
    have O3 := hideIt (Outside.drewN (O2.out.setCell (a := ⟨b, 2, none⟩) (Nat.le_refl _) (by simp) (.int .i64 ((seed * 31 + x + 7) % 2147483648))) 1)
    have NB3 := hideIt (src_set2 NB2.out (.int .i64 ((seed * 31 + x + 7) % 2147483648)))
    generalize hw3 : (w2.setCell ⟨b, 2, none⟩ (.int .i64 ((seed * 31 + x + 7) % 2147483648))).drew = w3
    have O4 : Hid (Outside b (b + 1) w w3) := by rw [← hw3]; exact O3.out
    have NB4 : Hid (w3.heap[b]? = some (.cells #[.slice (some ⟨bc, oc, none⟩) bs.length cC, .int .i64 ((m : Int) + 1), .int .i64 ((seed * 31 + x + 7) % 2147483648)] 104 (0, 0))) := by rw [← hw3]; exact NB3.out
    have hz3 : w3.heap.size = w.heap.size := by rw [← hw3]; exact (size_set _ _ _).trans hz2
    have x3 : w3.cell? ⟨bc, oc + m, none⟩ = some (.int .u8 x) := by
      rw [← hw3]
      exact (World.cell?_of_block (w := w2) (a := ⟨bc, oc + m, none⟩) (Below.heap_setCell _ _ _ _ (by simp only; omega))).trans x2'
    clear c0 c1 c2 f2 x2' hw3 O3 NB3
    obtain ⟨c0, c1, c2, c3⟩ := src_cells NB4.out
    clear c3
    go_quiet (fail)
    go_wp2
    go_ret
    rw [EE.out.1, EE.out.2]
    exact ⟨rfl, HS.out.set (O4.out.drewN _) (by omega) (by omega) (by rw [heap_drewN]; exact NB4.out), O4.out.drewN _, by rw [heap_drewN]; exact hz3⟩
  · have cc : ¬ ((m : Int) + 1) ≤ (bs.length : Int) := by omega
    clear hcC
    go_quiet (fail)
    go_wp2
    · go_ret
      obtain ⟨E1, E2⟩ := byte_far seed c (by omega)
      rw [E1, E2]
      exact ⟨rfl, HS.out.set (O1.out.drewN _) (by omega) (by omega) (by rw [heap_drewN]; exact NB.out), O1.out.drewN _, by rw [heap_drewN]; exact hz1⟩
    · go_ret
      have O3 := (O1.out.drewN nq).setCell (a := ⟨b, 2, none⟩) (Nat.le_refl _) (by simp) (.int .i64 ((seed * 1103515245 + 12345) % 2147483648))
      obtain ⟨E1, E2⟩ := byte_near seed c (by omega)
      rw [E1, E2]
      refine ⟨rfl, HS.out.set O3 (by omega) (by omega) (src_set2 (by rw [heap_drewN]; exact NB.out) _), O3, by rw [size_set, heap_drewN]; exact hz1⟩
theorem byteR_bd {w : World} {v : Value} {bs : List Int} (h : RdB w v bs) (m : Nat) (seed : Int) : 0 ≤ byteR bs m seed ∧ byteR bs m seed < 256 := by
  by_cases c : m < bs.length
  · rw [(byte_in seed c).1]; exact h.2 m c
  · by_cases c2 : 3000 < m + 1
    · rw [(byte_far seed c c2).1]; omega
    · rw [(byte_near seed c c2).1]; omega
theorem srcByte_any (w0 w : World) (b k : Nat) (vC : Value) (bs : List Int) (h : Src w0 w b vC bs k) (hk : k ≤ 1000000) :
    Calls Tryz.prog 102 #[.pointer (some ⟨b, 0, none⟩)] w fun e w' => ∃ r : Int, e = .returned (.int .i64 r) ∧ 0 ≤ r ∧ r < 256 ∧ Src w0 w' b vC bs (k + 1) ∧ Outside b (b + 1) w w' ∧ w'.heap.size = w.heap.size := by
  obtain ⟨at_, seed, a0, a1, s0, s1, hblk⟩ := h.cells
  obtain ⟨m, rfl⟩ : ∃ m : Nat, at_ = m := ⟨at_.toNat, by omega⟩
  have bd := byteR_bd h.code m seed
  refine (srcByte_exact w0 w b m vC bs seed ⟨h.set (Outside.refl _ _ _) a0 (Int.le_refl _) s0 s1 hblk, s0, s1, hblk⟩ (by omega)).mono ?_
  rintro e w' ⟨rfl, h1, h2, h3⟩
  exact ⟨_, rfl, bd.1, bd.2, h1.src.more (by omega), h2, h3⟩
set_option maxRecDepth 100000 in
set_option maxHeartbeats 8000000 in
theorem srcNext_any (n : Int) (hn : 2 ≤ n ∧ n ≤ 1000) (w0 w : World) (b k : Nat) (vC : Value) (bs : List Int) (h : Src w0 w b vC bs k) (hk : k ≤ 900000) :
    Calls Tryz.prog 51 #[.pointer (some ⟨b, 0, none⟩), .int .i64 n] w fun e w' => ∃ r : Int, e = .returned (.int .i64 r) ∧ 0 ≤ r ∧ r < n ∧ Src w0 w' b vC bs (k + 3) ∧ Outside b (b + 1) w w' ∧ w'.heap.size = w.heap.size := by
  have HS := hideIt h
  clear h
  by_cases c : n ≤ 256
  · go_enter Tryz.func51, Tryz.ntmps51
    go_wp2_with fail
    refine (srcByte_any w0 w b k vC bs HS.out (by omega)).mono ?_
    rintro e w1 ⟨r, rfl, r0, r1, hs, ho, hz⟩
    have S1 := hideIt hs
    have O1 := hideIt ho
    clear hs ho
    go_wp2
    go_ret
    exact ⟨_, rfl, Int.emod_nonneg _ (by omega), Int.emod_lt_of_pos _ (by omega), S1.out.more (by omega), O1.out, hz⟩
  · go_enter Tryz.func51, Tryz.ntmps51
    go_wp2_with fail
    refine (srcByte_any w0 w b k vC bs HS.out (by omega)).mono ?_
    rintro e w1 ⟨r, rfl, r0, r1, hs, ho, hz⟩
    have S1 := hideIt hs
    have O1 := hideIt ho
    clear hs ho
    go_wp2_with fail
    refine (srcByte_any w0 w1 b (k + 1) vC bs S1.out (by omega)).mono ?_
    rintro e w2 ⟨r', rfl, r2, r3, hs, ho, hz2⟩
    have S2 := hideIt hs
    have O2 := hideIt (O1.out.trans ho)
    clear hs ho
    go_wp2_with fail
    refine (srcByte_any w0 w2 b (k + 2) vC bs S2.out (by omega)).mono ?_
    rintro e w3 ⟨r'', rfl, r4, r5, hs, ho, hz3⟩
    have S3 := hideIt hs
    have O3 := hideIt (O2.out.trans ho)
    clear hs ho
    go_wp2
    go_ret
    exact ⟨_, rfl, Int.emod_nonneg _ (by omega), Int.emod_lt_of_pos _ (by omega), S3.out, O3.out, by omega⟩
theorem cells_new {w w' : World} {cs : Array Value} {t : TypeId} {lo hi : Nat} (ho : Outside lo hi (w.alloc (.cells cs t)) w') (hl : hi ≤ w.heap.size) : w'.heap[w.heap.size]? = some (.cells cs t (0, 0)) :=
  (ho.block w.heap.size (by simp) (.inr hl)).trans (at_new rfl)
set_option maxRecDepth 100000 in
set_option maxHeartbeats 8000000 in
theorem srcWord_any (w0 w : World) (b k : Nat) (vC : Value) (bs : List Int) (h : Src w0 w b vC bs k) (hk : k ≤ 800000) :
    Calls Tryz.prog 54 #[.pointer (some ⟨b, 0, none⟩)] w fun e w' => ∃ r : Int, e = .returned (.int .i64 r) ∧ 0 ≤ r ∧ r < 1099511627776 ∧ Src w0 w' b vC bs (k + 9) ∧ Outside b (b + 1) w w' := by
  have HS := hideIt h
  have hsz := h.size
  clear h
  go_enter Tryz.func54, Tryz.ntmps54
  go_wp2_with fail
  refine (srcNext_any 9 (by omega) w0 w b k vC bs HS.out (by omega)).mono ?_
  rintro e w1 ⟨r, rfl, r0, r1, hs, ho, hz⟩
  have S1 := hideIt hs
  have O1 := hideIt ho
  clear hs ho
  go_wp2_with fail
  refine (srcNext_any 1000 (by omega) w0 w1 b (k + 3) vC bs S1.out (by omega)).mono ?_
  rintro e w2 ⟨r', rfl, r2, r3, hs, ho, hz2⟩
  have S2 := hideIt (hs.newer ((Below.refl _ _).alloc (Nat.le_refl _) (.cells #[.int .i64 r, .int .i64 r', .int .i64 1099511627775] 3)))
  have O2 := hideIt ((O1.out.trans ho).trans (Outside.of_below ((Below.refl _ _).alloc (Nat.le_refl _) (.cells #[.int .i64 r, .int .i64 r', .int .i64 1099511627775] 3))))
  clear hs ho
  go_wp2_with fail
  refine (srcNext_any 9 (by omega) w0 _ b (k + 6) vC bs S2.out (by omega)).mono ?_
  rintro e w3 ⟨r'', rfl, r4, r5, hs, ho, hz3⟩
  obtain ⟨c0, c1, c2, _⟩ := src_cells (cells_new ho (by omega))
  rw [hz2, hz] at c0 c1 c2
  have S3 := hideIt hs
  have O3 := hideIt (O2.out.trans ho)
  clear hs ho
  rcases (show r'' / 4 = 0 ∨ r'' / 4 = 1 ∨ r'' / 4 = 2 by omega) with e | e | e
  · go_wp2
    go_ret
    exact ⟨_, rfl, by omega, by omega, S3.out, O3.out⟩
  · go_wp2
    go_ret
    exact ⟨_, rfl, by omega, by omega, S3.out, O3.out⟩
  · go_wp2
    go_ret
    exact ⟨_, rfl, by omega, by omega, S3.out, O3.out⟩
end Go.Proofs.YtjkdmhdehihcbaaGreatDoor
