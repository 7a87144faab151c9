/- Several texts laid together: RoJ, RoD. -/
import Derived.Test.YtjkdmhdehihcbaaGreatDoorRoH
import Derived.Test.YtjkdmhdehihcbaaGreatDoorRoI
import Derived.Test.YtjkdmhdehihcbaaGreatDoorZAL
import Derived.Test.YtjkdmhdehihcbaaGreatDoorOtC
import Derived.Test.YtjkdmhdehihcbaaGreatDoorZAK
import Derived.Test.YtjkdmhdehihcbaaGreatDoorOtA
namespace Go.Proofs.YtjkdmhdehihcbaaGreatDoor
open Go.RowKit
theorem isBlank_gives (x : Nat) (W : World) : FnGives Tryz.prog 71 #[] #[encR x] (.bool (isb x)) W := by
  have e : ((x : Int) == 32) = isb x := by
    unfold isb
    by_cases h : x = 32
    · subst h; rfl
    · rw [(beq_eq_false_iff_ne (a := x) (b := 32)).2 h, beq_eq_false_iff_ne]
      omega
  show Calls Tryz.prog 71 #[encR x] W _
  generalize isb x = b at *
  go_enter Tryz.func71, Tryz.ntmps71
  go_wp2
  go_ret
  exact ⟨rfl, 0, rfl⟩
set_option maxHeartbeats 2000000 in
theorem wordsOf_any (s : ByteArray) (w : World) (hs : s.size ≤ 65536) :
    Calls Tryz.prog 31 #[.string s] w fun e w' => ∃ A, e = .returned (.slice (some ⟨A, 0, none⟩) (wds s).length (wds s).length) ∧ RdT w' (.slice (some ⟨A, 0, none⟩) (wds s).length (wds s).length) (wds s) ∧ Below w.heap.size w w' := by
  have L := hideIt (fun w1 => Any.strings_FieldsFunc lays229 71 #[] (enters_of Tryz.func71 (by kernel_rfl) rfl) isb s w1 (by omega) (fun W x _ => isBlank_gives x W) (by kernel_rfl) (by kernel_rfl))
  rw [fields_wds] at L
  generalize wds s = ws at *
  go_enter Tryz.func31, Tryz.ntmps31
  go_wp2_with fail
  refine (L.out _).mono ?_
  rintro e w1 ⟨A, rfl, hA, hown, hb1⟩
  have R1 : Hid (RdT w1 (.slice (some ⟨A, 0, none⟩) ws.length ws.length) ws) := (own_block hown).rd
  have B1 := hideIt hb1
  clear hown hb1 L
  go_wp2
  go_ret
  exact ⟨A, rfl, R1.out, B1.out⟩
def HbO (w : World) (bo : Nat) (k : Int) (p t : ByteArray) (g x : Int) : Prop := w.heap[bo]? = some (.cells #[.int .i64 k, .string p, .string t, .int .i64 g, .int .i64 x] 76 (0, 0))
theorem HbO.cells {w : World} {bo : Nat} {k : Int} {p t : ByteArray} {g x : Int} (h : HbO w bo k p t g x) : (w.cell? ⟨bo, 0, none⟩ = some (.int .i64 k) ∧ w.cell? ⟨bo, 1, none⟩ = some (.string p) ∧ w.cell? ⟨bo, 2, none⟩ = some (.string t) ∧ w.cell? ⟨bo, 3, none⟩ = some (.int .i64 g) ∧ w.cell? ⟨bo, 4, none⟩ = some (.int .i64 x)) ∧ w.frozen? ⟨bo, 0, none⟩ = false ∧ w.frozen? ⟨bo, 1, none⟩ = false ∧ w.frozen? ⟨bo, 2, none⟩ = false ∧ w.frozen? ⟨bo, 3, none⟩ = false ∧ w.frozen? ⟨bo, 4, none⟩ = false := by
  unfold HbO at h
  simp [World.cell?, World.frozen?, h]
theorem HbO.lt {w : World} {bo : Nat} {k : Int} {p t : ByteArray} {g x : Int} (h : HbO w bo k p t g x) : bo < w.heap.size := (Array.getElem?_eq_some_iff.1 h).1
theorem HbO.below {w w' : World} {bo : Nat} {k : Int} {p t : ByteArray} {g x : Int} (h : HbO w bo k p t g x) (hb : Below w.heap.size w w') : HbO w' bo k p t g x := (hb.block _ h.lt).trans h
theorem HbO.setP {w : World} {bo : Nat} {k : Int} {p t : ByteArray} {g x : Int} (h : HbO w bo k p t g x) (u : ByteArray) : HbO (w.setCell ⟨bo, 1, none⟩ (.string u)) bo k u t g x := by
  unfold HbO at h ⊢
  simp [World.setCell, Array.getElem?_modify, h]
theorem HbO.setT {w : World} {bo : Nat} {k : Int} {p t : ByteArray} {g x : Int} (h : HbO w bo k p t g x) (u : ByteArray) : HbO (w.setCell ⟨bo, 2, none⟩ (.string u)) bo k p u g x := by
  unfold HbO at h ⊢
  simp [World.setCell, Array.getElem?_modify, h]
theorem HbO.setG {w : World} {bo : Nat} {k : Int} {p t : ByteArray} {g x : Int} (h : HbO w bo k p t g x) (u : Int) : HbO (w.setCell ⟨bo, 3, none⟩ (.int .i64 u)) bo k p t u x := by
  unfold HbO at h ⊢
  simp [World.setCell, Array.getElem?_modify, h]
theorem HbO.setX {w : World} {bo : Nat} {k : Int} {p t : ByteArray} {g x : Int} (h : HbO w bo k p t g x) (u : Int) : HbO (w.setCell ⟨bo, 4, none⟩ (.int .i64 u)) bo k p t g u := by
  unfold HbO at h ⊢
  simp [World.setCell, Array.getElem?_modify, h]
def Kpb (bo : Nat) (w w' : World) : Prop := ∀ j, j < w.heap.size → j ≠ bo → w'.heap[j]? = w.heap[j]?
def inR (v : Int) : Prop := -9223372036854775808 ≤ v ∧ v ≤ 9223372036854775807
def HrS (f : Nat) (u p t : ByteArray) (g x : Int) (p' t' : ByteArray) (g' x' : Int) (ok : Bool) : Prop :=
  (f = 0 ∧ p' = u ∧ t' = t ∧ g' = g ∧ x' = x ∧ ok = true) ∨ (f = 1 ∧ p' = p ∧ t' = t ∧ nuQ u g' ok ∧ inR g' ∧ x' = x) ∨
  (f = 2 ∧ p' = p ∧ t' = t ∧ g' = g ∧ nuQ u x' ok ∧ inR x') ∨ (f = 3 ∧ p' = p ∧ t' = u ∧ g' = g ∧ x' = x ∧ ok = true)
theorem hearPath_any (bo : Nat) (u : ByteArray) (k : Int) (p t : ByteArray) (g x : Int) (w : World) (h : HbO w bo k p t g x) :
    Calls Tryz.prog 57 #[.pointer (some ⟨bo, 0, none⟩), .string u] w fun e w' => ∃ p' t' g' x' ok, e = .returned (.bool ok) ∧ HrS 0 u p t g x p' t' g' x' ok ∧ HbO w' bo k p' t' g' x' ∧ Below bo w w' ∧ Kpb bo w w' := by
  obtain ⟨⟨c0, c1, c2, c3, c4⟩, f0, f1, f2, f3, f4⟩ := h.cells
  have H2 := hideIt (h.setP u)
  have K2 := hideIt (show Kpb bo w (w.setCell ⟨bo, 1, none⟩ (.string u)) from fun j _ hj => Below.heap_setCell _ _ _ _ hj)
  have B2 := hideIt (show Below bo w (w.setCell ⟨bo, 1, none⟩ (.string u)) from (Below.refl bo w).setCell (Nat.le_refl bo) _)
  clear h
  go_enter Tryz.func57, Tryz.ntmps57
  go_wp2
  go_ret
  exact ⟨u, t, g, x, true, rfl, .inl ⟨rfl, rfl, rfl, rfl, rfl, rfl⟩, H2.out, B2.out, K2.out⟩
theorem hearTo_any (bo : Nat) (u : ByteArray) (k : Int) (p t : ByteArray) (g x : Int) (w : World) (h : HbO w bo k p t g x) :
    Calls Tryz.prog 63 #[.pointer (some ⟨bo, 0, none⟩), .string u] w fun e w' => ∃ p' t' g' x' ok, e = .returned (.bool ok) ∧ HrS 3 u p t g x p' t' g' x' ok ∧ HbO w' bo k p' t' g' x' ∧ Below bo w w' ∧ Kpb bo w w' := by
  obtain ⟨⟨c0, c1, c2, c3, c4⟩, f0, f1, f2, f3, f4⟩ := h.cells
  have H2 := hideIt (h.setT u)
  have K2 := hideIt (show Kpb bo w (w.setCell ⟨bo, 2, none⟩ (.string u)) from fun j _ hj => Below.heap_setCell _ _ _ _ hj)
  have B2 := hideIt (show Below bo w (w.setCell ⟨bo, 2, none⟩ (.string u)) from (Below.refl bo w).setCell (Nat.le_refl bo) _)
  clear h
  go_enter Tryz.func63, Tryz.ntmps63
  go_wp2
  go_ret
  exact ⟨p, u, g, x, true, rfl, .inr (.inr (.inr ⟨rfl, rfl, rfl, rfl, rfl, rfl⟩)), H2.out, B2.out, K2.out⟩
theorem hearPage_any (bo : Nat) (u : ByteArray) (k : Int) (p t : ByteArray) (g x : Int) (w : World) (h : HbO w bo k p t g x) (hu : u.size ≤ 65536) (hP : PT w) (hS : SY w) (hR : RY w) :
    Calls Tryz.prog 59 #[.pointer (some ⟨bo, 0, none⟩), .string u] w fun e w' => ∃ p' t' g' x' ok, e = .returned (.bool ok) ∧ HrS 1 u p t g x p' t' g' x' ok ∧ HbO w' bo k p' t' g' x' ∧ Below bo w w' ∧ Kpb bo w w' := by
  have L := hideIt (implNumber_any u w hu hP hS hR)
  have H := hideIt h
  clear hP hS hR h
  go_enter Tryz.func59, Tryz.ntmps59
  go_wp2_with fail
  refine L.out.mono ?_
  rintro e w1 ⟨⟨v, ok, rfl, hq, v0, v1⟩, hb1⟩
  have Q := hideIt hq
  have H1 := hideIt (H.out.below hb1)
  have B1 := hideIt (hb1.mono (Nat.le_of_lt H.out.lt))
  have K1 := hideIt hb1.block
  clear hq hb1 L
  obtain ⟨⟨c0, c1, c2, c3, c4⟩, f0, f1, f2, f3, f4⟩ := H1.out.cells
  have H2 := hideIt (H1.out.setG v)
  have K2 := hideIt (show Kpb bo w (w1.setCell ⟨bo, 3, none⟩ (.int .i64 v)) from fun j hj1 hj => (Below.heap_setCell _ _ _ _ hj).trans (K1.out j hj1))
  have B2 := hideIt (show Below bo w (w1.setCell ⟨bo, 3, none⟩ (.int .i64 v)) from B1.out.setCell (Nat.le_refl _) _)
  clear B1 H1 H
  go_wp2
  go_ret
  exact ⟨p, t, v, x, ok, rfl, .inr (.inl ⟨rfl, rfl, rfl, Q.out, ⟨v0, v1⟩, rfl⟩), H2.out, B2.out, K2.out⟩
theorem hearValue_any (bo : Nat) (u : ByteArray) (k : Int) (p t : ByteArray) (g x : Int) (w : World) (h : HbO w bo k p t g x) (hu : u.size ≤ 65536) (hP : PT w) (hS : SY w) (hR : RY w) :
    Calls Tryz.prog 61 #[.pointer (some ⟨bo, 0, none⟩), .string u] w fun e w' => ∃ p' t' g' x' ok, e = .returned (.bool ok) ∧ HrS 2 u p t g x p' t' g' x' ok ∧ HbO w' bo k p' t' g' x' ∧ Below bo w w' ∧ Kpb bo w w' := by
  have L := hideIt (implNumber_any u w hu hP hS hR)
  have H := hideIt h
  clear hP hS hR h
  go_enter Tryz.func61, Tryz.ntmps61
  go_wp2_with fail
  refine L.out.mono ?_
  rintro e w1 ⟨⟨v, ok, rfl, hq, v0, v1⟩, hb1⟩
  have Q := hideIt hq
  have H1 := hideIt (H.out.below hb1)
  have B1 := hideIt (hb1.mono (Nat.le_of_lt H.out.lt))
  have K1 := hideIt hb1.block
  clear hq hb1 L
  obtain ⟨⟨c0, c1, c2, c3, c4⟩, f0, f1, f2, f3, f4⟩ := H1.out.cells
  have H2 := hideIt (H1.out.setX v)
  have K2 := hideIt (show Kpb bo w (w1.setCell ⟨bo, 4, none⟩ (.int .i64 v)) from fun j hj1 hj => (Below.heap_setCell _ _ _ _ hj).trans (K1.out j hj1))
  have B2 := hideIt (show Below bo w (w1.setCell ⟨bo, 4, none⟩ (.int .i64 v)) from B1.out.setCell (Nat.le_refl _) _)
  clear B1 H1 H
  go_wp2
  go_ret
  exact ⟨p, t, g, v, ok, rfl, .inr (.inr (.inl ⟨rfl, rfl, rfl, rfl, Q.out, ⟨v0, v1⟩⟩)), H2.out, B2.out, K2.out⟩
end Go.Proofs.YtjkdmhdehihcbaaGreatDoor

namespace Go.Proofs.YtjkdmhdehihcbaaGreatDoor
open Go.RowKit
def kdTo (s : ByteArray) : Nat → Nat
  | 0 => 0
  | i + 1 => if 1 ≤ i ∧ kwT i = s then i else kdTo s i
def kdOf (s : ByteArray) : Nat := kdTo s 11
def hrO (k : Nat) (ws : List ByteArray) : Option (ByteArray × ByteArray × Nat × Nat) :=
  if k = 0 then none
  else if k = 4 ∨ k = 5 then (if ws.length = 3 then some (ws.getD 1 ⟨#[]⟩, ws.getD 2 ⟨#[]⟩, 0, 0) else none)
  else if k = 6 then (if ws.length = 4 then (numP (ws.getD 2 ⟨#[]⟩)).bind fun g => (numP (ws.getD 3 ⟨#[]⟩)).map fun x => (ws.getD 1 ⟨#[]⟩, ⟨#[]⟩, g, x) else none)
  else if k = 7 ∨ k = 8 then (if ws.length = 3 then (numP (ws.getD 2 ⟨#[]⟩)).map fun g => (ws.getD 1 ⟨#[]⟩, ⟨#[]⟩, g, 0) else none)
  else (if ws.length = 2 then some (ws.getD 1 ⟨#[]⟩, ⟨#[]⟩, 0, 0) else none)
def rdW (ws : List ByteArray) : Option (Nat × ByteArray × ByteArray × Nat × Nat) :=
  (hrO (kdOf (ws.getD 0 ⟨#[]⟩)) ws).bind fun (p, t, g, x) => if otB (kdOf (ws.getD 0 ⟨#[]⟩)) p t g x = true then some (kdOf (ws.getD 0 ⟨#[]⟩), p, t, g, x) else none
end Go.Proofs.YtjkdmhdehihcbaaGreatDoor
