/- Several texts laid together: PiQ, PlA, IgA, IgB, IgC. -/
import Derived.Test.YtgnfbiohjdepcaaGreatDoorZAR
import Derived.Test.YtgnfbiohjdepcaaGreatDoorZAP
import Derived.Test.YtgnfbiohjdepcaaGreatDoorImX
import Derived.Maps.Views
import Derived.BigQuiet
import Derived.Sort.Walk0
import Derived.Laws.Cover1
namespace Go.Proofs.YtgnfbiohjdepcaaGreatDoor
open Go.RowKit
def fpV (b : Bool) (r : Int) : Int := if b = true then tellV r else 0
def fpC (b : Bool) (r : Int) : Int := if b = true then tellC r else 1
set_option maxRecDepth 100000 in
set_option maxHeartbeats 4000000 in
theorem l05Free_any (v : Value) (ws : List Ino) (ps : List Den) (t : Int) (n : Nat) (w : World) (h : RdIm w v ws ps) (hl : ws.length ≤ 4096) (hr : ∀ k (h : k < ws.length), ∀ z ∈ ws[k].map, 0 ≤ z ∧ z ≤ 1048576) (hn : n ≤ 1000) :
    Calls Tryz.prog 66 #[v, .int .i64 t, .int .i64 (n : Int)] w fun e w' => e = .returned (.int .i64 (firstIx (fun i => !hasB (usedOf (mapped ws) t) (i : Int)) n)) ∧ Below w.heap.size w w' := by
  have HRD := hideIt h
  have LU := hideIt (fun w1 h => l05Used_any v ws ps t w1 h hl hr)
  have UL : (usedOf (mapped ws) t).length ≤ 1048576 := by have := usedOf_len (mapped ws) t; have := mapped_len ws; omega
  obtain ⟨vW, vP, rfl, h1, h2⟩ := h
  obtain ⟨aW, cW, rfl, _, hcW⟩ := h1.shape
  obtain ⟨aP, cP, rfl, _, _⟩ := h2.shape
  clear h1 h2 hcW hr
  have CA : Hid (∀ w', Below (w.alloc (.cells #[.slice aW ws.length cW, .slice aP ps.length cP] 62)).heap.size (w.alloc (.cells #[.slice aW ws.length cW, .slice aP ps.length cP] 62)) w' → w'.cell? ⟨w.heap.size, 0, none⟩ = some (.slice aW ws.length cW) ∧ w'.cell? ⟨w.heap.size, 1, none⟩ = some (.slice aP ps.length cP)) := fun w' hb => by
    have : w'.heap[w.heap.size]? = some (.cells #[.slice aW ws.length cW, .slice aP ps.length cP] 62 (0, 0)) := (hb.block _ (by simp)).trans (at_new rfl)
    exact ⟨(two_cells this).1, (two_cells this).2.1⟩
  have BW : Hid (Below w.heap.size w (w.alloc (.cells #[.slice aW ws.length cW, .slice aP ps.length cP] 62))) := (Below.refl _ _).alloc (Nat.le_refl _) _
  obtain ⟨x0, x1⟩ := CA.out _ (Below.refl _ _)
  generalize usedOf (mapped ws) t = zs at *
  go_enter Tryz.func66, Tryz.ntmps66
  go_wp2_with fail
  refine (LU.out _ (HRD.out.below BW.out)).mono ?_
  rintro e w1 ⟨v1, rfl, hr1, hb1⟩
  obtain ⟨-, aL, cL, hvL, -⟩ := hr1.rd
  subst hvL
  have R1 : Hid (RdI w1 (.slice aL zs.length cL) zs) := hr1.rd
  have B1 := hideIt (below_trans BW.out hb1 BW.out.size)
  clear hr1 hb1 x0 x1 CA
  go_wp2
  go_loopw [8] (fun i wr => ∃ k : Nat, k ≤ n ∧ i = .int .i64 k ∧ wr = w1 ∧ Hid (∀ j, j < k → (!hasB zs (j : Int)) = false)) (fun i _ => n - (intOf i).toNat)
  case atStart => exact ⟨0, by omega, rfl, rfl, fun j a => absurd a (by omega)⟩
  case round =>
    obtain ⟨k, hk, rfl, rfl, H⟩ := hrel
    have k0 : (0 : Int) ≤ (k : Int) := by omega
    by_cases hlt : k < n
    · have k1 : (k : Int) < (n : Int) := by omega
      have LH := hideIt (l05Has_any (.slice aL zs.length cL) zs (k : Int) _ R1.out UL)
      cases q : hasB zs (k : Int) with
      | true =>
        have H' : Hid (∀ j, j < k + 1 → (!hasB zs (j : Int)) = false) := fun j a => by
          by_cases e : j = k
          · subst e; rw [q]; rfl
          · exact H.out j (by omega)
        rw [q] at LH
        clear q H
        go_wp2_with (go_at_call 110; refine LH.out.mono ?_; rintro e w' ⟨rfl, rfl⟩)
        go_roundw
        case rel => exact ⟨k + 1, by omega, by go_num, trivial, H'⟩
        case measure => simp [intOf]; omega
      | false =>
        have E := hideIt (first_at (p := fun i => !hasB zs (i : Int)) hlt H.out (by rw [q]; rfl))
        rw [q] at LH
        clear q H
        go_wp2_with (go_at_call 110; refine LH.out.mono ?_; rintro e w' ⟨rfl, rfl⟩)
        go_ret
        exact ⟨ret_int E.out.symm, B1.out⟩
    · have E := hideIt (first_none (p := fun i => !hasB zs (i : Int)) (n := n) (fun j hj => H.out j (by omega)))
      clear H
      go_wp2
      go_ret
      exact ⟨ret_int E.out.symm, B1.out⟩
set_option maxRecDepth 100000 in
set_option maxHeartbeats 4000000 in
theorem freeAddress_any (v : Value) (ws : List Ino) (ps : List Den) (t : Nat) (n : Nat) (w : World) (h : RdIm w v ws ps) (hw : ws.length ≤ 1048576) (hp : ps.length ≤ 1048576) (hT : TS w) (hE : ED w) (hF : FD w) (hr : ∀ k (h : k < ws.length), ws[k].R) (hs : ∀ k (h : k < ps.length), ps[k].name.size ≤ maxLen) (ht : (t = 1 ∧ n = 24) ∨ (t = 2 ∧ n = 32)) :
    Calls Tryz.prog 112 #[v, .int .i64 (t : Int)] w fun e w' => e = .returned (.tuple #[.int .i64 (fpV (imgB ws ps) (firstIx (fun i => !hasB (usedOf (mapped ws) (t : Int)) (i : Int)) n)), .int .i64 (fpC (imgB ws ps) (firstIx (fun i => !hasB (usedOf (mapped ws) (t : Int)) (i : Int)) n))]) ∧ Below w.heap.size w w' := by
  have LU := hideIt (fun w1 (hb : Below w.heap.size w w1) => implUsedBy_any v ws ps (t : Int) w1 (h.below hb) hw hp (hT.below hb) (hE.below hb) (hF.below hb) hr hs)
  have T := hideIt hT
  obtain ⟨vW, vP, rfl, h1, h2⟩ := h
  obtain ⟨aW, cW, rfl, _, hcW⟩ := h1.shape
  obtain ⟨aP, cP, rfl, _, _⟩ := h2.shape
  clear h1 h2 hr hs hT hE hF hcW
  have CA : Hid (∀ w', Below (w.alloc (.cells #[.slice aW ws.length cW, .slice aP ps.length cP] 62)).heap.size (w.alloc (.cells #[.slice aW ws.length cW, .slice aP ps.length cP] 62)) w' → w'.cell? ⟨w.heap.size, 0, none⟩ = some (.slice aW ws.length cW) ∧ w'.cell? ⟨w.heap.size, 1, none⟩ = some (.slice aP ps.length cP)) := fun w' hb => by
    have : w'.heap[w.heap.size]? = some (.cells #[.slice aW ws.length cW, .slice aP ps.length cP] 62 (0, 0)) := (hb.block _ (by simp)).trans (at_new rfl)
    exact ⟨(two_cells this).1, (two_cells this).2.1⟩
  have BW : Hid (Below w.heap.size w (w.alloc (.cells #[.slice aW ws.length cW, .slice aP ps.length cP] 62))) := (Below.refl _ _).alloc (Nat.le_refl _) _
  obtain ⟨x0, x1⟩ := CA.out _ (Below.refl _ _)
  have c2 : (t : Int) = 1 ∨ (t : Int) = 2 := by rcases ht with ⟨e, _⟩ | ⟨e, _⟩ <;> rw [e] <;> decide
  cases c1 : imgB ws ps with
  | false =>
    rw [c1] at LU
    have e1 := show ubC false (t : Int) = 1 from rfl
    have e2 : ubL false (mapped ws) (t : Int) = [] := if_neg (fun h => by cases h.1)
    rw [e1, e2] at LU
    generalize firstIx (fun i => !hasB (usedOf (mapped ws) (t : Int)) (i : Int)) n = r
    rw [show fpV false r = 0 from rfl, show fpC false r = 1 from rfl]
    clear c1 e1 e2
    go_enter Tryz.func112, Tryz.ntmps112
    go_wp2_with fail
    refine (LU.out _ BW.out).mono ?_
    rintro e w1 ⟨v1, rfl, hr1, hb1⟩
    obtain ⟨-, aL, cL, hvL, -⟩ := hr1.rd
    subst hvL
    have B1 := hideIt (below_trans BW.out hb1 BW.out.size)
    clear hr1 hb1 x0 x1
    go_wp2
    go_ret2
    exact ⟨rfl, B1.out⟩
  | true =>
  rw [c1] at LU
  have e1 : ubC true (t : Int) = 0 := by unfold ubC; rw [if_pos rfl, if_pos c2]
  have e2 : ubL true (mapped ws) (t : Int) = usedOf (mapped ws) (t : Int) := if_pos ⟨rfl, c2⟩
  have UL : (usedOf (mapped ws) (t : Int)).length ≤ 1048576 := by have := usedOf_len (mapped ws) (t : Int); have := mapped_len ws; have := (img_parts c1).1; omega
  rw [e1, e2] at LU
  generalize usedOf (mapped ws) (t : Int) = zs at *
  have TC : Hid (∀ w', Below w.heap.size w w' → w'.cell? ⟨1, t, none⟩ = some (.int .i64 (n : Int))) := fun w' hb => by
    obtain ⟨a0, a1, a2⟩ := TS.cells (T.out.below hb)
    rcases ht with ⟨rfl, rfl⟩ | ⟨rfl, rfl⟩
    · exact a1
    · exact a2
  have t0 : (0 : Int) ≤ (t : Int) := by rcases ht with ⟨e, _⟩ | ⟨e, _⟩ <;> rw [e] <;> decide
  have t3 : (t : Int) < 3 := by rcases ht with ⟨e, _⟩ | ⟨e, _⟩ <;> rw [e] <;> decide
  have n1 : n ≤ 32 := by rcases ht with ⟨_, e⟩ | ⟨_, e⟩ <;> rw [e] <;> decide
  clear c1 c2 e1 e2 ht T
  go_enter Tryz.func112, Tryz.ntmps112
  go_wp2_with fail
  refine (LU.out _ BW.out).mono ?_
  rintro e w1 ⟨v1, rfl, hr1, hb1⟩
  obtain ⟨-, aL, cL, hvL, -⟩ := hr1.rd
  subst hvL
  have R1 : Hid (RdI w1 (.slice aL zs.length cL) zs) := hr1.rd
  have B1 := hideIt (below_trans BW.out hb1 BW.out.size)
  have tc := TC.out _ B1.out
  clear hr1 hb1 x0 x1 CA
  go_wp2
  go_loopw [8, 21] (fun _ i wr => ∃ k : Nat, k ≤ n ∧ i = .int .i64 k ∧ wr = w1 ∧ Hid (∀ j, j < k → (!hasB zs (j : Int)) = false)) (fun _ i _ => n - (intOf i).toNat)
  case atStart => exact ⟨0, by omega, rfl, rfl, fun j a => absurd a (by omega)⟩
  case round =>
    obtain ⟨k, hk, rfl, rfl, H⟩ := hrel
    have k0 : (0 : Int) ≤ (k : Int) := by omega
    by_cases hlt : k < n
    · have k1 : (k : Int) < (n : Int) := by omega
      have LH := hideIt (containsInt_any (.slice aL zs.length cL) zs (k : Int) _ R1.out UL)
      cases q : hasB zs (k : Int) with
      | true =>
        have H' : Hid (∀ j, j < k + 1 → (!hasB zs (j : Int)) = false) := fun j a => by
          by_cases e : j = k
          · subst e; rw [q]; rfl
          · exact H.out j (by omega)
        rw [q] at LH
        clear q H
        go_wp2_with (go_at_call 142; refine LH.out.mono ?_; rintro e w' ⟨rfl, rfl⟩)
        go_roundw
        case rel => exact ⟨k + 1, by omega, by go_num, trivial, H'⟩
        case measure => simp [intOf]; omega
      | false =>
        have E := hideIt (first_at (p := fun i => !hasB zs (i : Int)) hlt H.out (by rw [q]; rfl))
        have E1 := hideIt (show fpV true (k : Int) = (k : Int) by unfold fpV tellV; rw [if_pos rfl, if_neg (by omega)])
        have E2 := hideIt (show fpC true (k : Int) = 0 by unfold fpC tellC; rw [if_pos rfl, if_neg (by omega)])
        rw [q] at LH
        clear q H
        go_wp2_with (go_at_call 142; refine LH.out.mono ?_; rintro e w' ⟨rfl, rfl⟩)
        go_ret2
        exact ⟨ret_two (by rw [E.out, E1.out]) (by rw [E.out, E2.out]), B1.out⟩
    · have E := hideIt (first_none (p := fun i => !hasB zs (i : Int)) (n := n) (fun j hj => H.out j (by omega)))
      clear H
      go_wp2
      go_ret2
      exact ⟨ret_two (by rw [E.out]; rfl) (by rw [E.out]; rfl), B1.out⟩
set_option maxRecDepth 100000 in
set_option maxHeartbeats 4000000 in
theorem implFreePage_any (v : Value) (ws : List Ino) (ps : List Den) (w : World) (h : RdIm w v ws ps) (hw : ws.length ≤ 1048576) (hp : ps.length ≤ 1048576) (hT : TS w) (hE : ED w) (hF : FD w) (hr : ∀ k (h : k < ws.length), ws[k].R) (hs : ∀ k (h : k < ps.length), ps[k].name.size ≤ maxLen) :
    Calls Tryz.prog 73 #[v] w fun e w' => e = .returned (.tuple #[.int .i64 (fpV (imgB ws ps) (firstIx (fun i => !hasB (usedOf (mapped ws) 1) (i : Int)) 24)), .int .i64 (fpC (imgB ws ps) (firstIx (fun i => !hasB (usedOf (mapped ws) 1) (i : Int)) 24))]) ∧ Below w.heap.size w w' := by
  have LF := hideIt (fun w1 (hb : Below w.heap.size w w1) => freeAddress_any v ws ps 1 24 w1 (h.below hb) hw hp (hT.below hb) (hE.below hb) (hF.below hb) hr hs (by omega))
  rw [show ((1 : Nat) : Int) = 1 from rfl] at LF
  obtain ⟨vW, vP, rfl, h1, h2⟩ := h
  obtain ⟨aW, cW, rfl, _, hcW⟩ := h1.shape
  obtain ⟨aP, cP, rfl, _, _⟩ := h2.shape
  clear h1 h2 hr hs hcW hT hE hF
  have CA : Hid (∀ w', Below (w.alloc (.cells #[.slice aW ws.length cW, .slice aP ps.length cP] 62)).heap.size (w.alloc (.cells #[.slice aW ws.length cW, .slice aP ps.length cP] 62)) w' → w'.cell? ⟨w.heap.size, 0, none⟩ = some (.slice aW ws.length cW) ∧ w'.cell? ⟨w.heap.size, 1, none⟩ = some (.slice aP ps.length cP)) := fun w' hb => by
    have : w'.heap[w.heap.size]? = some (.cells #[.slice aW ws.length cW, .slice aP ps.length cP] 62 (0, 0)) := (hb.block _ (by simp)).trans (at_new rfl)
    exact ⟨(two_cells this).1, (two_cells this).2.1⟩
  have BW : Hid (Below w.heap.size w (w.alloc (.cells #[.slice aW ws.length cW, .slice aP ps.length cP] 62))) := (Below.refl _ _).alloc (Nat.le_refl _) _
  obtain ⟨x0, x1⟩ := CA.out _ (Below.refl _ _)
  generalize fpV (imgB ws ps) (firstIx (fun i => !hasB (usedOf (mapped ws) 1) (i : Int)) 24) = r1 at *
  generalize fpC (imgB ws ps) (firstIx (fun i => !hasB (usedOf (mapped ws) 1) (i : Int)) 24) = r2 at *
  go_enter Tryz.func73, Tryz.ntmps73
  go_wp2_with fail
  refine (LF.out _ BW.out).mono ?_
  rintro e w1 ⟨rfl, hb1⟩
  have B1 := hideIt (below_trans BW.out hb1 BW.out.size)
  clear hb1 x0 x1
  go_wp2
  go_ret2
  exact ⟨rfl, B1.out⟩
set_option maxRecDepth 100000 in
set_option maxHeartbeats 4000000 in
theorem implFreeSector_any (v : Value) (ws : List Ino) (ps : List Den) (w : World) (h : RdIm w v ws ps) (hw : ws.length ≤ 1048576) (hp : ps.length ≤ 1048576) (hT : TS w) (hE : ED w) (hF : FD w) (hr : ∀ k (h : k < ws.length), ws[k].R) (hs : ∀ k (h : k < ps.length), ps[k].name.size ≤ maxLen) :
    Calls Tryz.prog 74 #[v] w fun e w' => e = .returned (.tuple #[.int .i64 (fpV (imgB ws ps) (firstIx (fun i => !hasB (usedOf (mapped ws) 2) (i : Int)) 32)), .int .i64 (fpC (imgB ws ps) (firstIx (fun i => !hasB (usedOf (mapped ws) 2) (i : Int)) 32))]) ∧ Below w.heap.size w w' := by
  have LF := hideIt (fun w1 (hb : Below w.heap.size w w1) => freeAddress_any v ws ps 2 32 w1 (h.below hb) hw hp (hT.below hb) (hE.below hb) (hF.below hb) hr hs (by omega))
  rw [show ((2 : Nat) : Int) = 2 from rfl] at LF
  obtain ⟨vW, vP, rfl, h1, h2⟩ := h
  obtain ⟨aW, cW, rfl, _, hcW⟩ := h1.shape
  obtain ⟨aP, cP, rfl, _, _⟩ := h2.shape
  clear h1 h2 hr hs hcW hT hE hF
  have CA : Hid (∀ w', Below (w.alloc (.cells #[.slice aW ws.length cW, .slice aP ps.length cP] 62)).heap.size (w.alloc (.cells #[.slice aW ws.length cW, .slice aP ps.length cP] 62)) w' → w'.cell? ⟨w.heap.size, 0, none⟩ = some (.slice aW ws.length cW) ∧ w'.cell? ⟨w.heap.size, 1, none⟩ = some (.slice aP ps.length cP)) := fun w' hb => by
    have : w'.heap[w.heap.size]? = some (.cells #[.slice aW ws.length cW, .slice aP ps.length cP] 62 (0, 0)) := (hb.block _ (by simp)).trans (at_new rfl)
    exact ⟨(two_cells this).1, (two_cells this).2.1⟩
  have BW : Hid (Below w.heap.size w (w.alloc (.cells #[.slice aW ws.length cW, .slice aP ps.length cP] 62))) := (Below.refl _ _).alloc (Nat.le_refl _) _
  obtain ⟨x0, x1⟩ := CA.out _ (Below.refl _ _)
  generalize fpV (imgB ws ps) (firstIx (fun i => !hasB (usedOf (mapped ws) 2) (i : Int)) 32) = r1 at *
  generalize fpC (imgB ws ps) (firstIx (fun i => !hasB (usedOf (mapped ws) 2) (i : Int)) 32) = r2 at *
  go_enter Tryz.func74, Tryz.ntmps74
  go_wp2_with fail
  refine (LF.out _ BW.out).mono ?_
  rintro e w1 ⟨rfl, hb1⟩
  have B1 := hideIt (below_trans BW.out hb1 BW.out.size)
  clear hb1 x0 x1
  go_wp2
  go_ret2
  exact ⟨rfl, B1.out⟩
def zeroN : Ino := ⟨0, 0, 0, 0, 0, 0, 0, 0, 0, 0, 0⟩
end Go.Proofs.YtgnfbiohjdepcaaGreatDoor

namespace Go.Proofs.YtgnfbiohjdepcaaGreatDoor
open Go.RowKit
def freeD : Den := ⟨0, ⟨#[]⟩, -1⟩
theorem lkI_ok {ws : List Ino} {ps : List Den} {s : ByteArray} (h : imgB ws ps = true) : 0 ≤ (lkI ws ps s).1 ∧ (lkI ws ps s).1 ≤ 15 := by
  unfold lkI
  split
  · exact wk_range h _ 0 (by omega)
  · exact ⟨by decide, by decide⟩
theorem toList_same {s t : ByteArray} : (s.toList == t.toList) = true ↔ s = t := by
  rw [beq_iff_eq, ByteArray.toList_eq, ByteArray.toList_eq]
  exact ⟨bytes_ext, fun h => by rw [h]⟩
theorem hit_iff {d : Int} {nm : ByteArray} {x : Den} : entHit d nm x = true ↔ 0 ≤ x.child ∧ x.dir = d ∧ x.name = nm := by
  unfold entHit
  rw [Bool.and_eq_true, Bool.and_eq_true, decide_eq_true_eq, beq_iff_eq, toList_same]
theorem ent_once {ws : List Ino} {ps : List Den} (h : imgB ws ps = true) {d : Int} {nm : ByteArray} {i j : Nat} (hi : i < ps.length) (hj : j < ps.length) (ei : entHit d nm ps[i] = true) (ej : entHit d nm ps[j] = true) : i = j := by
  obtain ⟨_, _, _, _, he, _, _⟩ := pimg_all h
  have he := (of_decide_eq_true he : ∀ i (h : i < ps.length), entOne ws ps i ps[i] = true)
  have one : ∀ {i j : Nat} (hi : i < ps.length) (hj : j < ps.length), entHit d nm ps[i] = true → entHit d nm ps[j] = true → ¬ i < j := by
    intro i j hi hj ei ej lt
    obtain ⟨a1, a2, a3⟩ := hit_iff.1 ei
    obtain ⟨b1, b2, b3⟩ := hit_iff.1 ej
    have e := he j hj
    unfold entOne at e
    rw [if_neg (by omega)] at e
    simp only [Bool.and_eq_true, List.all_eq_true] at e
    have q := e.2.2.2.2.2 ps[i] (by
      rw [List.mem_take_iff_getElem]
      exact ⟨i, by omega, rfl⟩)
    unfold clashB at q
    rw [a2, a3, b2, b3, decide_eq_true a1] at q
    simp at q
  have q1 := one hi hj ei ej
  have q2 := one hj hi ej ei
  omega
end Go.Proofs.YtgnfbiohjdepcaaGreatDoor

namespace Go.Proofs.YtgnfbiohjdepcaaGreatDoor
open Go.RowKit
def inoAt (ws : List Ino) (i : Nat) : Ino := ws.getD i zeroN
def denAt (ps : List Den) (k : Nat) : Den := ps.getD k freeD
theorem inoAt_of {ws : List Ino} {i : Nat} (h : i < ws.length) : inoAt ws i = ws[i] := by
  unfold inoAt
  rw [List.getD_eq_getElem?_getD, List.getElem?_eq_getElem h]; rfl
theorem denAt_of {ps : List Den} {i : Nat} (h : i < ps.length) : denAt ps i = ps[i] := by
  unfold denAt
  rw [List.getD_eq_getElem?_getD, List.getElem?_eq_getElem h]; rfl
theorem kindAt_ino (ws : List Ino) (i : Nat) : kindAt ws (i : Int) = (inoAt ws i).kind := by unfold kindAt inoAt; rfl
theorem childAt_den {ps : List Den} {k : Nat} (h : k < ps.length) : childAt ps k = (denAt ps k).child := by rw [childAt_of h, denAt_of h]
theorem freeB_iff {x : Den} : x.freeB = true ↔ x = freeD := by
  unfold Den.freeB freeD
  simp only [Bool.and_eq_true, beq_iff_eq]
  constructor
  · rintro ⟨h1, h2, h3⟩
    obtain ⟨d, n, c⟩ := x
    simp only at h1 h2 h3
    subst h1 h3
    have : n = ⟨#[]⟩ := by
      apply bytes_ext
      have : n.data.toList.length = 0 := by simpa using h2
      rw [List.eq_nil_of_length_eq_zero this]
    rw [this]
  · intro h
    rw [h]
    exact ⟨rfl, rfl, rfl⟩
def EntOK (ws : List Ino) (x : Den) : Prop := (1 ≤ x.child ∧ x.child ≤ 15) ∧ (0 ≤ x.dir ∧ x.dir ≤ 15) ∧ nmB x.name = true ∧ ¬ kindAt ws x.child = 0 ∧ kindAt ws x.dir = 2
def cntA (ps : List Den) (c : Int) : Nat := (ps.filter fun x => x.child == c).length
structure Img (ws : List Ino) (ps : List Den) : Prop where
  l16 : ws.length = 16
  l24 : ps.length = 24
  root : kindAt ws 0 = 2
  ok : ∀ i, i < 16 → inoB (inoAt ws i) = true
  ent : ∀ k, k < 24 → denAt ps k = freeD ∨ EntOK ws (denAt ps k)
  once : ∀ j k, j < 24 → k < 24 → 0 ≤ (denAt ps j).child → 0 ≤ (denAt ps k).child → (denAt ps j).dir = (denAt ps k).dir → (denAt ps j).name = (denAt ps k).name → j = k
  links : ∀ i : Nat, i < 16 → (if i = 0 then 1 else 0) + (cntA ps (i : Int) : Int) = (inoAt ws i).links
  hang : ∀ i : Nat, i < 16 → (inoAt ws i).kind = 2 → hangs ps 16 (i : Int) = true
  sing : (mapped ws).Pairwise fun x y => x ≠ y
theorem okAll_ties {ws : List Ino} (l16 : ws.length = 16) (ok : ∀ i, i < 16 → inoB (inoAt ws i) = true) : ∀ e ∈ mapped ws, 0 ≤ e ∧ (e % 4 = 1 ∨ e % 4 = 2) := by
  apply mapped_ties
  intro i hi
  have := ok i (by omega)
  rw [inoAt_of hi] at this
  exact (ino_ties this).1
theorem img_iff {ws : List Ino} {ps : List Den} : imgB ws ps = true ↔ Img ws ps := by
  constructor
  · intro h
    obtain ⟨l1, l2, r, o, e, l, s⟩ := pimg_all h
    have o' := (of_decide_eq_true o : ∀ k (h : k < ws.length), inoB ws[k] = true)
    have e' := (of_decide_eq_true e : ∀ i (h : i < ps.length), entOne ws ps i ps[i] = true)
    have l' := (of_decide_eq_true l : ∀ i (h : i < ws.length), linkB ps i ws[i] = true)
    have ok : ∀ i, i < 16 → inoB (inoAt ws i) = true := fun i hi => by rw [inoAt_of (by omega)]; exact o' i (by omega)
    refine ⟨l1, l2, r, ok, ?_, ?_, ?_, ?_, ?_⟩
    · intro k hk
      rw [denAt_of (by omega)]
      have q := e' k (by omega)
      unfold entOne at q
      split at q
      · exact .inl (freeB_iff.1 q)
      · right
        rcases pimg_ent h k (by omega) with a | a
        · rename_i c; exact absurd a.1 c
        · exact a
    · intro j k hj hk cj ck hd hn
      refine ent_once h (d := (denAt ps j).dir) (nm := (denAt ps j).name) (i := j) (j := k) (by omega) (by omega) ?_ ?_
      · rw [denAt_of (by omega)] at cj ⊢
        exact hit_iff.2 ⟨cj, rfl, rfl⟩
      · rw [denAt_of (i := k) (by omega)] at ck hd hn
        exact hit_iff.2 ⟨ck, hd.symm, hn.symm⟩
    · intro i hi
      have q := l' i (by omega)
      unfold linkB cntD at q
      simp only [Bool.and_eq_true, decide_eq_true_eq] at q
      rw [inoAt_of (by omega), ← q.1, List.take_length]
      rfl
    · intro i hi hk
      rw [inoAt_of (by omega)] at hk
      have q := l' i (by omega)
      unfold linkB at q
      simp only [Bool.and_eq_true, Bool.or_eq_true, decide_eq_true_eq] at q
      rcases q.2 with q | q
      · exact absurd hk q
      · exact q
    · unfold singB at s
      rw [single_eq (fun e he => (okAll_ties l1 ok e he).2), once_nodup] at s
      exact s
  · rintro ⟨l1, l2, r, o, e, c, l, g, s⟩
    unfold imgB
    have hs : singB ws = true := by
      unfold singB
      rw [single_eq (fun e he => (okAll_ties l1 o e he).2), once_nodup]
      exact s
    have ho : okNs ws = true := decide_eq_true fun k hk => by rw [← inoAt_of hk]; exact o k (by omega)
    have hl : linksB ws ps = true := decide_eq_true fun i hi => by
      unfold linkB cntD
      rw [List.take_length, ← inoAt_of hi]
      simp only [Bool.and_eq_true, Bool.or_eq_true, decide_eq_true_eq]
      refine ⟨l i (by omega), ?_⟩
      by_cases q : (inoAt ws i).kind = 2
      · exact .inr (g i (by omega) q)
      · exact .inl q
    have he : entsB ws ps = true := decide_eq_true fun i hi => by
      unfold entOne
      rw [← denAt_of hi]
      rcases e i (by omega) with q | q
      · rw [q]
        rfl
      · obtain ⟨q1, q2, q3, q4, q5⟩ := q
        rw [if_neg (by omega), decide_eq_true q1, decide_eq_true q2, q3, q5]
        simp only [Bool.true_and, Bool.and_eq_true, Bool.not_eq_true', beq_eq_false_iff_ne, List.all_eq_true]
        refine ⟨q4, by decide, ?_⟩
        intro y hy
        obtain ⟨j, hj, rfl⟩ := List.mem_take_iff_getElem.1 hy
        have hj := Nat.lt_min.1 hj
        have hc : clashB ps[j] (denAt ps i) = false := by
          rw [Bool.eq_false_iff]
          intro hc
          unfold clashB at hc
          rw [Bool.and_eq_true, Bool.and_eq_true, decide_eq_true_eq, beq_iff_eq, toList_same] at hc
          rw [← denAt_of hj.2] at hc
          have := c j i (by omega) (by omega) hc.1 (by omega) hc.2.1 hc.2.2
          omega
        rw [hc]
    rw [decide_eq_true l1, decide_eq_true l2, r, ho, he, hl, hs]
    rfl
end Go.Proofs.YtgnfbiohjdepcaaGreatDoor

namespace Go.Proofs.YtgnfbiohjdepcaaGreatDoor
open Go.RowKit
theorem up_dir {ws : List Ino} {ps : List Den} (ent : ∀ k, k < ps.length → denAt ps k = freeD ∨ EntOK ws (denAt ps k)) {c : Int} (hc : 0 ≤ c) (h : 0 ≤ upD ps c) : ∃ k, k < ps.length ∧ (denAt ps k).child = c ∧ (denAt ps k).dir = upD ps c ∧ EntOK ws (denAt ps k) := by
  unfold upD at h ⊢
  cases e : ps.find? fun x => x.child == c with
  | none => rw [e] at h; exact absurd h (by decide)
  | some x =>
    have hx := List.mem_of_find?_eq_some e
    have hp := List.find?_some e
    obtain ⟨k, hk, rfl⟩ := List.getElem_of_mem hx
    refine ⟨k, hk, ?_⟩
    rw [denAt_of hk]
    refine ⟨by simpa using hp, rfl, ?_⟩
    have := ent k hk
    rw [denAt_of hk] at this
    rcases this with q | q
    · rw [q] at hp
      have : freeD.child = c := by simpa using hp
      exact absurd hc (by rw [← this]; decide)
    · exact q
end Go.Proofs.YtgnfbiohjdepcaaGreatDoor

namespace Go.Proofs.YtgnfbiohjdepcaaGreatDoor
open Go.RowKit
theorem Img.ent' {ws : List Ino} {ps : List Den} (h : Img ws ps) : ∀ k, k < ps.length → denAt ps k = freeD ∨ EntOK ws (denAt ps k) := fun k hk => h.ent k (by have := h.l24; omega)
theorem Img.dir {ws : List Ino} {ps : List Den} (h : Img ws ps) {c : Int} (hc : 0 ≤ c) (hu : 0 ≤ upD ps c) : kindAt ws (upD ps c) = 2 ∧ upD ps c ≤ 15 := by
  obtain ⟨k, hk, _, e, q⟩ := up_dir h.ent' hc hu
  rw [← e]
  exact ⟨q.2.2.2.2, q.2.1.2⟩
end Go.Proofs.YtgnfbiohjdepcaaGreatDoor
