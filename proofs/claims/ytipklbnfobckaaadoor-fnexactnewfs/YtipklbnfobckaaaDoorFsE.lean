/- A file system's value and its box: by the model. -/
import Derived.Test.YtipklbnfobckaaaDoorDev
import Derived.Test.YtipklbnfobckaaaDoorZAK
import Derived.Test.YtipklbnfobckaaaDoorZAL
import Derived.Test.YtipklbnfobckaaaDoorFsC
import Derived.Deep.DeepCutAuto
import Derived.Deep.RegionHeld3
import Derived.Deep.RegionLaw
import Derived.Deep.RegionWith
namespace Go.Proofs.YtipklbnfobckaaaDoor
open Go.RowKit

/-- A file system that can be read: words, sectors, heat, steps, the answer, whether it waits. -/
def RdFs (w : World) (v : Value) (ws es hs : List Int) (td : List Mi) (cd vl : Int) (nm : List ByteArray) (fr : Bool) : Prop :=
  ∃ aW cW aP cP aS cS aQ cQ aH cH aT cT aN cN, v = .agg #[.slice aW ws.length cW, .slice aP 0 cP, .slice aS es.length cS, .slice aQ 0 cQ, .slice aH hs.length cH, .slice aT td.length cT, .int .i64 cd, .int .i64 vl, .slice aN nm.length cN, .bool fr] ∧ RdDev w (.agg #[.slice aW ws.length cW, .slice aP 0 cP, .slice aS es.length cS, .slice aQ 0 cQ]) ws [] es [] ∧ RdI w (.slice aH hs.length cH) hs ∧ RdM w (.slice aT td.length cT) td ∧ RdT w (.slice aN nm.length cN) nm
theorem RdFs.soft {w w' : World} {v : Value} {ws es hs : List Int} {td : List Mi} {cd vl : Int} {nm : List ByteArray} {fr : Bool} (h : RdFs w v ws es hs td cd vl nm fr) (s : Soft w w') (h1 : 3 ≤ ws.length) (h2 : 3 ≤ es.length) (h3 : 3 ≤ hs.length) : RdFs w' v ws es hs td cd vl nm fr := by
  obtain ⟨aW, cW, aP, cP, aS, cS, aQ, cQ, aH, cH, aT, cT, aN, cN, rfl, a, b, c, d⟩ := h
  exact ⟨aW, cW, aP, cP, aS, cS, aQ, cQ, aH, cH, aT, cT, aN, cN, rfl, a.soft s h1 h2, b.soft s h3, c.soft s, d.soft s⟩
theorem RdFs.below {w w' : World} {v : Value} {ws es hs : List Int} {td : List Mi} {cd vl : Int} {nm : List ByteArray} {fr : Bool} (h : RdFs w v ws es hs td cd vl nm fr) (s : Below w.heap.size w w') : RdFs w' v ws es hs td cd vl nm fr := by
  obtain ⟨aW, cW, aP, cP, aS, cS, aQ, cQ, aH, cH, aT, cT, aN, cN, rfl, a, b, c, d⟩ := h
  exact ⟨aW, cW, aP, cP, aS, cS, aQ, cQ, aH, cH, aT, cT, aN, cN, rfl, a.below s, Rd.below b s, Rd.below c s, Rd.below d s⟩
theorem ten_cells {w : World} {b : Nat} {t : TypeId} {x0 x1 x2 x3 x4 x5 x6 x7 x8 x9 : Value} (h : w.heap[b]? = some (.cells #[x0, x1, x2, x3, x4, x5, x6, x7, x8, x9] t (0, 0))) : w.cell? ⟨b, 0, none⟩ = some x0 ∧ w.cell? ⟨b, 1, none⟩ = some x1 ∧ w.cell? ⟨b, 2, none⟩ = some x2 ∧ w.cell? ⟨b, 3, none⟩ = some x3 ∧ w.cell? ⟨b, 4, none⟩ = some x4 ∧ w.cell? ⟨b, 5, none⟩ = some x5 ∧ w.cell? ⟨b, 6, none⟩ = some x6 ∧ w.cell? ⟨b, 7, none⟩ = some x7 ∧ w.cell? ⟨b, 8, none⟩ = some x8 ∧ w.cell? ⟨b, 9, none⟩ = some x9 ∧ w.frozen? ⟨b, 0, none⟩ = false ∧ w.frozen? ⟨b, 1, none⟩ = false ∧ w.frozen? ⟨b, 2, none⟩ = false ∧ w.frozen? ⟨b, 3, none⟩ = false ∧ w.frozen? ⟨b, 4, none⟩ = false ∧ w.frozen? ⟨b, 5, none⟩ = false ∧ w.frozen? ⟨b, 6, none⟩ = false ∧ w.frozen? ⟨b, 7, none⟩ = false ∧ w.frozen? ⟨b, 8, none⟩ = false ∧ w.frozen? ⟨b, 9, none⟩ = false := by
  simp [World.cell?, World.frozen?, h]
theorem ten_set0 {w : World} {b : Nat} {t : TypeId} {x0 x1 x2 x3 x4 x5 x6 x7 x8 x9 : Value} (h : w.heap[b]? = some (.cells #[x0, x1, x2, x3, x4, x5, x6, x7, x8, x9] t (0, 0))) (u : Value) : (w.setCell ⟨b, 0, none⟩ u).heap[b]? = some (.cells #[u, x1, x2, x3, x4, x5, x6, x7, x8, x9] t (0, 0)) := by simp [World.setCell, Array.getElem?_modify, h]
theorem ten_set1 {w : World} {b : Nat} {t : TypeId} {x0 x1 x2 x3 x4 x5 x6 x7 x8 x9 : Value} (h : w.heap[b]? = some (.cells #[x0, x1, x2, x3, x4, x5, x6, x7, x8, x9] t (0, 0))) (u : Value) : (w.setCell ⟨b, 1, none⟩ u).heap[b]? = some (.cells #[x0, u, x2, x3, x4, x5, x6, x7, x8, x9] t (0, 0)) := by simp [World.setCell, Array.getElem?_modify, h]
theorem ten_set2 {w : World} {b : Nat} {t : TypeId} {x0 x1 x2 x3 x4 x5 x6 x7 x8 x9 : Value} (h : w.heap[b]? = some (.cells #[x0, x1, x2, x3, x4, x5, x6, x7, x8, x9] t (0, 0))) (u : Value) : (w.setCell ⟨b, 2, none⟩ u).heap[b]? = some (.cells #[x0, x1, u, x3, x4, x5, x6, x7, x8, x9] t (0, 0)) := by simp [World.setCell, Array.getElem?_modify, h]
theorem ten_set3 {w : World} {b : Nat} {t : TypeId} {x0 x1 x2 x3 x4 x5 x6 x7 x8 x9 : Value} (h : w.heap[b]? = some (.cells #[x0, x1, x2, x3, x4, x5, x6, x7, x8, x9] t (0, 0))) (u : Value) : (w.setCell ⟨b, 3, none⟩ u).heap[b]? = some (.cells #[x0, x1, x2, u, x4, x5, x6, x7, x8, x9] t (0, 0)) := by simp [World.setCell, Array.getElem?_modify, h]
theorem ten_set4 {w : World} {b : Nat} {t : TypeId} {x0 x1 x2 x3 x4 x5 x6 x7 x8 x9 : Value} (h : w.heap[b]? = some (.cells #[x0, x1, x2, x3, x4, x5, x6, x7, x8, x9] t (0, 0))) (u : Value) : (w.setCell ⟨b, 4, none⟩ u).heap[b]? = some (.cells #[x0, x1, x2, x3, u, x5, x6, x7, x8, x9] t (0, 0)) := by simp [World.setCell, Array.getElem?_modify, h]
theorem ten_set5 {w : World} {b : Nat} {t : TypeId} {x0 x1 x2 x3 x4 x5 x6 x7 x8 x9 : Value} (h : w.heap[b]? = some (.cells #[x0, x1, x2, x3, x4, x5, x6, x7, x8, x9] t (0, 0))) (u : Value) : (w.setCell ⟨b, 5, none⟩ u).heap[b]? = some (.cells #[x0, x1, x2, x3, x4, u, x6, x7, x8, x9] t (0, 0)) := by simp [World.setCell, Array.getElem?_modify, h]
theorem ten_set6 {w : World} {b : Nat} {t : TypeId} {x0 x1 x2 x3 x4 x5 x6 x7 x8 x9 : Value} (h : w.heap[b]? = some (.cells #[x0, x1, x2, x3, x4, x5, x6, x7, x8, x9] t (0, 0))) (u : Value) : (w.setCell ⟨b, 6, none⟩ u).heap[b]? = some (.cells #[x0, x1, x2, x3, x4, x5, u, x7, x8, x9] t (0, 0)) := by simp [World.setCell, Array.getElem?_modify, h]
theorem ten_set7 {w : World} {b : Nat} {t : TypeId} {x0 x1 x2 x3 x4 x5 x6 x7 x8 x9 : Value} (h : w.heap[b]? = some (.cells #[x0, x1, x2, x3, x4, x5, x6, x7, x8, x9] t (0, 0))) (u : Value) : (w.setCell ⟨b, 7, none⟩ u).heap[b]? = some (.cells #[x0, x1, x2, x3, x4, x5, x6, u, x8, x9] t (0, 0)) := by simp [World.setCell, Array.getElem?_modify, h]
theorem ten_set8 {w : World} {b : Nat} {t : TypeId} {x0 x1 x2 x3 x4 x5 x6 x7 x8 x9 : Value} (h : w.heap[b]? = some (.cells #[x0, x1, x2, x3, x4, x5, x6, x7, x8, x9] t (0, 0))) (u : Value) : (w.setCell ⟨b, 8, none⟩ u).heap[b]? = some (.cells #[x0, x1, x2, x3, x4, x5, x6, x7, u, x9] t (0, 0)) := by simp [World.setCell, Array.getElem?_modify, h]
theorem ten_set9 {w : World} {b : Nat} {t : TypeId} {x0 x1 x2 x3 x4 x5 x6 x7 x8 x9 : Value} (h : w.heap[b]? = some (.cells #[x0, x1, x2, x3, x4, x5, x6, x7, x8, x9] t (0, 0))) (u : Value) : (w.setCell ⟨b, 9, none⟩ u).heap[b]? = some (.cells #[x0, x1, x2, x3, x4, x5, x6, x7, x8, u] t (0, 0)) := by simp [World.setCell, Array.getElem?_modify, h]
/-- A box of ten cells is written. -/
def put10 (w : World) (b : Nat) (x0 x1 x2 x3 x4 x5 x6 x7 x8 x9 : Value) : World := ((((((((((w.setCell ⟨b, 0, none⟩ x0).setCell ⟨b, 1, none⟩ x1).setCell ⟨b, 2, none⟩ x2).setCell ⟨b, 3, none⟩ x3).setCell ⟨b, 4, none⟩ x4).setCell ⟨b, 5, none⟩ x5).setCell ⟨b, 6, none⟩ x6).setCell ⟨b, 7, none⟩ x7).setCell ⟨b, 8, none⟩ x8).setCell ⟨b, 9, none⟩ x9)
theorem put10_out (w : World) (b : Nat) (x0 x1 x2 x3 x4 x5 x6 x7 x8 x9 : Value) : Outside b (b + 1) w (put10 w b x0 x1 x2 x3 x4 x5 x6 x7 x8 x9) := by
  unfold put10
  repeat (refine Outside.setCell ?_ (by simp only; omega) (by simp only; omega) _)
  exact Outside.refl _ _ _
/-- A box that is all zero. -/
def zeroF : List Value := [.slice none 0 0, .slice none 0 0, .slice none 0 0, .slice none 0 0, .slice none 0 0, .slice none 0 0, .int .i64 0, .int .i64 0, .slice none 0 0, .bool false]
end Go.Proofs.YtipklbnfobckaaaDoor
