/- Several texts laid together: PcC, PiP, PiQ, PaB. -/
import Derived.Test.YtbbmljakfbhnpaaGreatDoorZAL
import Derived.Test.YtbbmljakfbhnpaaGreatDoorZAK
namespace Go.Proofs.YtbbmljakfbhnpaaGreatDoor
open Go.RowKit

/-- What Lookup answers: of names, of a text. -/
def lkI (ws : List Ino) (ps : List Den) (s : ByteArray) : Int × Int := if spB s = true then wk ws ps 0 (spL s) else (0, 12)
/-- What Parent answers. -/
def paN (ws : List Ino) (ps : List Den) (xs : List ByteArray) (x : ByteArray) : Int × ByteArray × Int := if (wk ws ps 0 xs).2 = 0 then (if zak ws (wk ws ps 0 xs).1 = 2 then ((wk ws ps 0 xs).1, x, 0) else (0, ⟨#[]⟩, 10)) else (0, ⟨#[]⟩, (wk ws ps 0 xs).2)
def paL (ws : List Ino) (ps : List Den) (ns : List ByteArray) : Int × ByteArray × Int := if ns = [] then (0, ⟨#[]⟩, 19) else paN ws ps ns.dropLast (ns.getLastD ⟨#[]⟩)
def paI (ws : List Ino) (ps : List Den) (s : ByteArray) : Int × ByteArray × Int := if spB s = true then paL ws ps (spL s) else (0, ⟨#[]⟩, 12)
theorem paL_snoc (ws : List Ino) (ps : List Den) (xs : List ByteArray) (x : ByteArray) : paL ws ps (xs ++ [x]) = paN ws ps xs x := by
 unfold paL
 rw [if_neg (by simp), List.dropLast_concat]
 congr 1
 simp
theorem snoc_of {ns : List ByteArray} (h : ¬ ns = []) : ∃ xs x, ns = xs ++ [x] := ⟨ns.dropLast, ns.getLast h, (List.dropLast_concat_getLast h).symm⟩

set_option maxRecDepth 100000 in
set_option maxHeartbeats 4000000 in
theorem zek (v : Value) (ws : List Ino) (ps : List Den) (s : ByteArray) (w : World) (h : RdIm w v ws ps) (hi : zfm ws ps = true) (hs : s.size ≤ 65536) :
  Calls Tryz.prog 183 #[v, .string s] w fun e w' => e = .returned (.tuple #[.int .i64 (lkI ws ps s).1, .int .i64 (lkI ws ps s).2]) ∧ Below w.heap.size w w' := by
 have HR := zaa h
 have LS := zaa (fun w1 => zkf s w1 hs)
 have LW := zaa (fun vL w1 h hL => zml v vL ws ps (spL s) w1 h hL hi (by have := @spL_len s; omega))
 have EL := zaa (show lkI ws ps s = if spB s = true then wk ws ps 0 (spL s) else (0, 12) from rfl)
 obtain ⟨vW, vP, rfl, h1, h2⟩ := h
 obtain ⟨aW, cW, rfl, _, _⟩ := h1.shape
 obtain ⟨aP, cP, rfl, _, _⟩ := h2.shape
 clear h1 h2 hi
 have CA : Hid (∀ w', Below (w.alloc (.cells #[.slice aW ws.length cW, .slice aP ps.length cP] 26)).heap.size (w.alloc (.cells #[.slice aW ws.length cW, .slice aP ps.length cP] 26)) w' → w'.cell? ⟨w.heap.size, 0, none⟩ = some (.slice aW ws.length cW) ∧ w'.cell? ⟨w.heap.size, 1, none⟩ = some (.slice aP ps.length cP)) := fun w' hb => by
  have : w'.heap[w.heap.size]? = some (.cells #[.slice aW ws.length cW, .slice aP ps.length cP] 26 (0, 0)) := (hb.block _ (by simp)).trans (zag rfl)
  exact ⟨(zad this).1, (zad this).2.1⟩
 have BW : Hid (Below w.heap.size w (w.alloc (.cells #[.slice aW ws.length cW, .slice aP ps.length cP] 26))) := (Below.refl _ _).alloc (Nat.le_refl _) _
 generalize lkI ws ps s = res at *
 generalize wk ws ps 0 (spL s) = rw0 at *
 cases c : spB s with
 | false =>
  rw [c] at LS EL
  obtain rfl := EL.out
  clear EL LW
  go_enter Tryz.func183, Tryz.ntmps183
  go_wp2_with fail
  refine (LS.out _).mono ?_
  rintro e w1 ⟨v1, rfl, hr1, hb1⟩
  have B1 := zaa (zab BW.out hb1 BW.out.size)
  clear hr1 hb1
  go_wp2
  go_ret2
  exact ⟨rfl, B1.out⟩
 | true =>
  rw [c] at LS EL
  obtain rfl : res = rw0 := EL.out
  clear EL
  go_enter Tryz.func183, Tryz.ntmps183
  go_wp2_with fail
  refine (LS.out _).mono ?_
  rintro e w1 ⟨v1, rfl, hr1, hb1⟩
  have B1 := zaa (zab BW.out hb1 BW.out.size)
  obtain ⟨x0, x1⟩ := CA.out _ hb1
  have R1 := zaa hr1
  clear hr1 hb1
  go_wp2_with fail
  refine (LW.out _ _ (HR.out.below B1.out) R1.out).mono ?_
  rintro e w2 ⟨rfl, hb2⟩
  have B2 := zaa (zab B1.out hb2 B1.out.size)
  clear hb2 x0 x1
  go_wp2
  go_ret2
  exact ⟨rfl, B2.out⟩

end Go.Proofs.YtbbmljakfbhnpaaGreatDoor

namespace Go.Proofs.YtbbmljakfbhnpaaGreatDoor
open Go.RowKit

/-- The first number below a bound that is asked for, -1 without one. -/
def zbv (p : Nat → Bool) (n : Nat) : Int := match (List.range n).find? p with | some i => (i : Int) | none => -1
theorem zpv {p : Nat → Bool} {n k : Nat} (hk : k < n) (h : ∀ j, j < k → p j = false) (e : p k = true) : zbv p n = (k : Int) := by
 have : (List.range n).find? p = some k := List.find?_range_eq_some.2 ⟨e, List.mem_range.2 hk, fun j hj => by rw [h j hj]; rfl⟩
 unfold zbv
 rw [this]
theorem zjq {p : Nat → Bool} {n : Nat} (h : ∀ j, j < n → p j = false) : zbv p n = -1 := by
 have : (List.range n).find? p = none := List.find?_eq_none.2 (fun j hj => by rw [h j (List.mem_range.1 hj)]; decide)
 unfold zbv
 rw [this]
theorem zdu (p : Nat → Bool) (n : Nat) : -1 ≤ zbv p n ∧ zbv p n < n := by
 unfold zbv
 split
 ·rename_i i h
  have := List.mem_range.1 (List.mem_of_find?_eq_some h)
  omega
 ·omega
end Go.Proofs.YtbbmljakfbhnpaaGreatDoor

namespace Go.Proofs.YtbbmljakfbhnpaaGreatDoor
open Go.RowKit

set_option maxRecDepth 100000 in
set_option maxHeartbeats 4000000 in
theorem zfq (v : Value) (ws : List Ino) (ps : List Den) (t : Int) (n : Nat) (w : World) (h : RdIm w v ws ps) (hl : ws.length ≤ 4096) (hr : ∀ k (h : k < ws.length), ∀ z ∈ ws[k].map, 0 ≤ z ∧ z ≤ 1048576) (hn : n ≤ 1000) :
  Calls Tryz.prog 185 #[v, .int .i64 t, .int .i64 (n : Int)] w fun e w' => e = .returned (.int .i64 (zbv (fun i => !zho (zby (zap ws) t) (i : Int)) n)) ∧ Below w.heap.size w w' := by
 have HRD := zaa h
 have LU := zaa (fun w1 h => zwk v ws ps t w1 h hl hr)
 have UL : (zby (zap ws) t).length ≤ 1048576 := by have := zpa (zap ws) t; have := zjy ws; omega
 obtain ⟨vW, vP, rfl, h1, h2⟩ := h
 obtain ⟨aW, cW, rfl, _, hcW⟩ := h1.shape
 obtain ⟨aP, cP, rfl, _, _⟩ := h2.shape
 clear h1 h2 hcW hr
 have CA : Hid (∀ w', Below (w.alloc (.cells #[.slice aW ws.length cW, .slice aP ps.length cP] 26)).heap.size (w.alloc (.cells #[.slice aW ws.length cW, .slice aP ps.length cP] 26)) w' → w'.cell? ⟨w.heap.size, 0, none⟩ = some (.slice aW ws.length cW) ∧ w'.cell? ⟨w.heap.size, 1, none⟩ = some (.slice aP ps.length cP)) := fun w' hb => by
  have : w'.heap[w.heap.size]? = some (.cells #[.slice aW ws.length cW, .slice aP ps.length cP] 26 (0, 0)) := (hb.block _ (by simp)).trans (zag rfl)
  exact ⟨(zad this).1, (zad this).2.1⟩
 have BW : Hid (Below w.heap.size w (w.alloc (.cells #[.slice aW ws.length cW, .slice aP ps.length cP] 26))) := (Below.refl _ _).alloc (Nat.le_refl _) _
 obtain ⟨x0, x1⟩ := CA.out _ (Below.refl _ _)
 generalize zby (zap ws) t = zs at *
 go_enter Tryz.func185, Tryz.ntmps185
 go_wp2_with fail
 refine (LU.out _ (HRD.out.below BW.out)).mono ?_
 rintro e w1 ⟨v1, rfl, hr1, hb1⟩
 obtain ⟨-, aL, cL, hvL, -⟩ := hr1.rd
 subst hvL
 have R1 : Hid (RdI w1 (.slice aL zs.length cL) zs) := hr1.rd
 have B1 := zaa (zab BW.out hb1 BW.out.size)
 clear hr1 hb1 x0 x1 CA
 go_wp2
 go_loopw [8] (fun i wr => ∃ k : Nat, k ≤ n ∧ i = .int .i64 k ∧ wr = w1 ∧ Hid (∀ j, j < k → (!zho zs (j : Int)) = false)) (fun i _ => n - (intOf i).toNat)
 case atStart => exact ⟨0, by omega, rfl, rfl, fun j a => absurd a (by omega)⟩
 case round =>
  obtain ⟨k, hk, rfl, rfl, H⟩ := hrel
  have k0 : (0 : Int) ≤ (k : Int) := by omega
  by_cases hlt : k < n
  ·have k1 : (k : Int) < (n : Int) := by omega
   have LH := zaa (l05Has_any (.slice aL zs.length cL) zs (k : Int) _ R1.out UL)
   cases q : zho zs (k : Int) with
   | true =>
    have H' : Hid (∀ j, j < k + 1 → (!zho zs (j : Int)) = false) := fun j a => by
     by_cases e : j = k
     ·subst e; rw [q]; rfl
     ·exact H.out j (by omega)
    rw [q] at LH
    clear q H
    go_wp2_with (go_at_call 127; refine LH.out.mono ?_; rintro e w' ⟨rfl, rfl⟩)
    go_roundw
    case rel => exact ⟨k + 1, by omega, by go_num, trivial, H'⟩
    case measure => simp [intOf]; omega
   | false =>
    have E := zaa (zpv (p := fun i => !zho zs (i : Int)) hlt H.out (by rw [q]; rfl))
    rw [q] at LH
    clear q H
    go_wp2_with (go_at_call 127; refine LH.out.mono ?_; rintro e w' ⟨rfl, rfl⟩)
    go_ret
    exact ⟨zcw E.out.symm, B1.out⟩
  ·have E := zaa (zjq (p := fun i => !zho zs (i : Int)) (n := n) (fun j hj => H.out j (by omega)))
   clear H
   go_wp2
   go_ret
   exact ⟨zcw E.out.symm, B1.out⟩

set_option maxRecDepth 100000 in
set_option maxHeartbeats 4000000 in
theorem zkv (v : Value) (ws : List Ino) (ps : List Den) (w : World) (h : RdIm w v ws ps) (hl : ws.length ≤ 4096) :
  Calls Tryz.prog 226 #[v] w fun e w' => e = .returned (.int .i64 (zbv (fun i => decide (1 ≤ i) && zak ws (i : Int) == 0) ws.length)) ∧ Below w.heap.size w w' := by
 obtain ⟨vW, vP, rfl, h1, h2⟩ := h
 obtain ⟨aW, cW, rfl, _, hcW⟩ := h1.shape
 obtain ⟨aP, cP, rfl, _, _⟩ := h2.shape
 have HW := zaa hcW
 clear h1 h2 hcW
 have CA : Hid (∀ w', Below (w.alloc (.cells #[.slice aW ws.length cW, .slice aP ps.length cP] 26)).heap.size (w.alloc (.cells #[.slice aW ws.length cW, .slice aP ps.length cP] 26)) w' → w'.cell? ⟨w.heap.size, 0, none⟩ = some (.slice aW ws.length cW) ∧ w'.cell? ⟨w.heap.size, 1, none⟩ = some (.slice aP ps.length cP)) := fun w' hb => by
  have : w'.heap[w.heap.size]? = some (.cells #[.slice aW ws.length cW, .slice aP ps.length cP] 26 (0, 0)) := (hb.block _ (by simp)).trans (zag rfl)
  exact ⟨(zad this).1, (zad this).2.1⟩
 have BW : Hid (Below w.heap.size w (w.alloc (.cells #[.slice aW ws.length cW, .slice aP ps.length cP] 26))) := (Below.refl _ _).alloc (Nat.le_refl _) _
 obtain ⟨x0, x1⟩ := CA.out _ (Below.refl _ _)
 clear x0 x1
 obtain ⟨W, hW⟩ : ∃ W, W = w.alloc (.cells #[.slice aW ws.length cW, .slice aP ps.length cP] 26) := ⟨_, rfl⟩
 rw [← hW] at CA BW
 obtain ⟨y0, y1⟩ := CA.out _ (Below.refl _ _)
 go_enter Tryz.func226, Tryz.ntmps226
 go_wp2
 rw [← hW]
 clear hW
 go_loopw [3] (fun i wr => ∃ k : Nat, (1 ≤ k ∧ (k ≤ ws.length ∨ k = 1)) ∧ i = .int .i64 k ∧ wr = W ∧ Hid (∀ j, j < k → (decide (1 ≤ j) && zak ws (j : Int) == 0) = false)) (fun i _ => ws.length + 1 - (intOf i).toNat)
 case atStart => exact ⟨1, by omega, rfl, rfl, fun j a => by rw [decide_eq_false (by omega)]; rfl⟩
 case round =>
  obtain ⟨k, hk, rfl, rfl, H⟩ := hrel
  have k0 : (0 : Int) ≤ (k : Int) := by omega
  by_cases hlt : k < ws.length
  ·obtain ⟨b, o, rfl, hbl, hcell⟩ := HW.out (by omega)
   have d0 := (BW.out.cell (p := ⟨b, o + k * 11, none⟩) hbl).trans (hcell k hlt).1
   rw [← zcm hlt] at d0
   have k1 : (k : Int) < (ws.length : Int) := by omega
   have P := zaa (show (decide (1 ≤ k) && zak ws (k : Int) == 0) = (zak ws (k : Int) == 0) by rw [decide_eq_true hk.1]; rfl)
   clear hcell
   cases q : (zak ws (k : Int) == 0) with
   | true =>
    have E := zaa (zpv (p := fun i => decide (1 ≤ i) && zak ws (i : Int) == 0) hlt H.out (by show (decide (1 ≤ k) && zak ws (k : Int) == 0) = true; rw [P.out, q]))
    clear H P
    generalize zak ws (k : Int) = z at d0 q
    go_wp2
    go_ret
    exact ⟨zcw E.out.symm, BW.out⟩
   | false =>
    have H' : Hid (∀ j, j < k + 1 → (decide (1 ≤ j) && zak ws (j : Int) == 0) = false) := fun j a => by
     by_cases e : j = k
     ·subst e; rw [P.out, q]
     ·exact H.out j (by omega)
    clear H P
    generalize zak ws (k : Int) = z at d0 q
    go_wp2
    go_roundw
    case rel => exact ⟨k + 1, by omega, by go_num, trivial, H'⟩
    case measure => simp [intOf]; omega
  ·have E := zaa (zjq (p := fun i => decide (1 ≤ i) && zak ws (i : Int) == 0) (n := ws.length) (fun j hj => H.out j (by omega)))
   have k2 : ¬ (k : Int) < (ws.length : Int) := by omega
   clear H
   go_wp2
   go_ret
   exact ⟨zcw E.out.symm, BW.out⟩

/-- The inode that has none. -/
def zgq : Ino := ⟨0, 0, 0, 0, 0, 0, 0, 0, 0, 0, 0⟩

end Go.Proofs.YtbbmljakfbhnpaaGreatDoor

namespace Go.Proofs.YtbbmljakfbhnpaaGreatDoor
open Go.RowKit

set_option maxRecDepth 100000 in
set_option maxHeartbeats 2000000 in
theorem zoh (v : Value) (ws : List Ino) (ps : List Den) (a b : Int) (w : World) (h : RdIm w v ws ps) (hn : ps.length ≤ 1048576) :
  Calls Tryz.prog 228 #[v, .int .i64 a, .int .i64 b] w fun e w' => e = .returned (.bool (zos ps 17 a b)) ∧ Below w.heap.size w w' := by
 have HR := zaa h
 obtain ⟨vW, vP, rfl, h1, h2⟩ := h
 obtain ⟨aW, cW, rfl, _⟩ := h1.shape
 obtain ⟨aP, cP, rfl, _, hcP⟩ := h2.shape
 clear h1 h2 hcP
 obtain ⟨W, hW⟩ : ∃ W, W = w.alloc (.cells #[.slice aW ws.length cW, .slice aP ps.length cP] 26) := ⟨_, rfl⟩
 have CA : Hid (∀ w', Below W.heap.size W w' → w'.cell? ⟨w.heap.size, 0, none⟩ = some (.slice aW ws.length cW) ∧ w'.cell? ⟨w.heap.size, 1, none⟩ = some (.slice aP ps.length cP)) := fun w' hb => by
  have : w'.heap[w.heap.size]? = some (.cells #[.slice aW ws.length cW, .slice aP ps.length cP] 26 (0, 0)) := (hb.block _ (by rw [hW]; simp)).trans (by rw [hW]; exact zag rfl)
  exact ⟨(zad this).1, (zad this).2.1⟩
 have BW : Hid (Below w.heap.size w W) := by rw [hW]; exact (Below.refl _ _).alloc (Nat.le_refl _) _
 have hz : w.heap.size ≤ W.heap.size := BW.out.size
 have LU := zaa (fun d w1 h => l05Up_any (.agg #[.slice aW ws.length cW, .slice aP ps.length cP]) ws ps d w1 h hn)
 go_enter Tryz.func228, Tryz.ntmps228
 go_wp2
 rw [← hW]
 clear hW
 go_loopw [1, 7] (fun d i wr => ∃ (k : Nat) (z : Int), k ≤ 17 ∧ i = .int .i64 k ∧ d = .int .i64 z ∧ Hid (Below W.heap.size W wr ∧ zos ps 17 a b = zos ps (17 - k) z b)) (fun _ i _ => 17 - (intOf i).toNat)
 case atStart => exact ⟨0, a, by omega, rfl, rfl, Below.refl _ _, rfl⟩
 case round =>
  obtain ⟨k, z, hk, rfl, rfl, J⟩ := hrel
  obtain ⟨x0, x1⟩ := CA.out wr J.out.1
  have B := zaa (zab BW.out J.out.1 hz)
  by_cases hlt : k < 17
  ·have ES := zaa (show zos ps (17 - k) z b = if z < 0 then false else if z = b then true else zos ps (17 - (k + 1)) (upD ps z) b by
    rw [show 17 - k = (17 - (k + 1)) + 1 by omega]; rfl)
   have k16 : (k : Int) ≤ 16 := by omega
   by_cases q : z < 0
   ·have E := zaa (show zos ps 17 a b = false by rw [J.out.2, ES.out, if_pos q])
    have q1 : ¬ z ≥ 0 := by omega
    clear ES J
    go_wp2
    go_ret
    exact ⟨zah E.out.symm, B.out⟩
   ·have q1 : z ≥ 0 := by omega
    by_cases r : z = b
    ·subst r
     have E := zaa (show zos ps 17 a z = true by rw [J.out.2, ES.out, if_neg q, if_pos rfl])
     clear ES J
     go_wp2
     go_ret
     exact ⟨zah E.out.symm, B.out⟩
    ·have r1 : (z == b) = false := beq_eq_false_iff_ne.2 r
     have R := zaa (HR.out.below B.out)
     have E := zaa (show zos ps 17 a b = zos ps (17 - (k + 1)) (upD ps z) b by rw [J.out.2, ES.out, if_neg q, if_neg r])
     have J1 := zaa J.out.1
     clear ES J q r
     go_wp2_with fail
     refine (LU.out _ _ R.out).mono ?_
     rintro e w1 ⟨rfl, hb1⟩
     have B1 := zaa (zab J1.out hb1 J1.out.size)
     clear hb1
     go_wp2
     go_roundw
     case rel => exact ⟨k + 1, _, by omega, by go_num, rfl, B1.out, E.out⟩
     case measure => simp [intOf]; omega
  ·obtain rfl : k = 17 := by omega
   have E := zaa (show zos ps 17 a b = false by rw [J.out.2]; rfl)
   clear J
   go_wp2
   go_ret
   exact ⟨zah E.out.symm, B.out⟩

end Go.Proofs.YtbbmljakfbhnpaaGreatDoor
