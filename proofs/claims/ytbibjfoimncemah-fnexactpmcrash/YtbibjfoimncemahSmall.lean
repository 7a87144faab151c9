/- Small facts on rows and on lists of numbers and stores. -/
import Derived.Test.YtbibjfoimncemahPmLoad
namespace Go.Proofs.Ytbibjfoimncemah
open Go.RowKit

theorem ints_one (zs : List Int) : ∀ u ∈ ints zs, u.oneCell' = true := ints_oneCell _ zs
theorem sts_one (ps : List St) : ∀ u ∈ sts ps, u.oneCell' = true := by
  intro u hu
  simp only [sts, List.mem_flatMap, St.cells] at hu
  obtain ⟨s, _, hs⟩ := hu
  simp at hs
  rcases hs with rfl | rfl | rfl <;> rfl
theorem Row.sameV {w w' : World} {e : TypeId} {size lo hi : Nat} {v : Value} {n : Nat} {xs : List Value} (h : Row w e size lo hi v n xs) (hs : ∀ b, v.ownBlock = some b → w'.heap[b]? = w.heap[b]?) : Row w' e size lo hi v n xs := by
  obtain ⟨⟨h1, h2⟩, h3⟩ := h
  refine ⟨⟨h1, ?_⟩, h3⟩
  rcases h2 with h2 | ⟨g, cap, cur, rfl, hb, hg, r⟩
  · exact .inl h2
  · exact .inr ⟨g, cap, cur, rfl, hb, (hs g rfl).trans hg, r⟩
theorem Row.setOther {w : World} {e : TypeId} {size lo hi : Nat} {v : Value} {n : Nat} {xs : List Value} (h : Row w e size lo hi v n xs) {a : Addr} (ha : v.ownBlock ≠ some a.block) (u : Value) : Row (w.setCell a u) e size lo hi v n xs :=
  h.sameV (fun b hb => Below.heap_setCell _ _ _ _ (fun e => ha (by rw [hb, e])))
theorem Row.ne_type {w : World} {e : TypeId} {size lo hi : Nat} {v : Value} {n : Nat} {xs : List Value} (h : Row w e size lo hi v n xs) {b : Nat} {t : TypeId} {cs : Array Value} {fr : Nat × Nat} (hb : w.heap[b]? = some (.cells cs t fr)) (ht : t ≠ e) : v.ownBlock ≠ some b := by
  intro e0
  rcases h.1.2 with ⟨rfl, _⟩ | ⟨g, cap, cur, rfl, _, hg, _⟩
  · cases e0
  · cases e0
    rw [hg] at hb
    simp at hb
    exact ht hb.2.1.symm
theorem RowPm.setCell {w : World} {lo hi : Nat} {v : Value} {ws : List Int} {ps : List St} (h : RowPm w lo hi v ws ps) {a : Addr} (ha : a.block < lo) (u : Value) : RowPm (w.setCell a u) lo hi v ws ps := by
  obtain ⟨vW, vP, rfl, h1, h2⟩ := h
  exact ⟨vW, vP, rfl, h1.same (fun b hb _ => Below.heap_setCell _ _ _ _ (by omega)), h2.same (fun b hb _ => Below.heap_setCell _ _ _ _ (by omega))⟩
theorem RowPm.alloc {w : World} {lo hi : Nat} {v : Value} {ws : List Int} {ps : List St} (h : RowPm w lo hi v ws ps) (hi1 : hi ≤ w.heap.size) (o : Obj) : RowPm (w.alloc o) lo hi v ws ps :=
  h.below ((Below.refl _ _).alloc (Nat.le_refl _) o) hi1
theorem RowPm.zero (w : World) (lo hi : Nat) : RowPm w lo hi (.agg #[.slice none 0 0, .slice none 0 0]) [] [] := ⟨_, _, rfl, Row.nil _ _ _ _ _, Row.nil _ _ _ _ _⟩
theorem Row.alloc {w : World} {e : TypeId} {size lo hi : Nat} {v : Value} {n : Nat} {xs : List Value} (h : Row w e size lo hi v n xs) (hi1 : hi ≤ w.heap.size) (o : Obj) : Row (w.alloc o) e size lo hi v n xs :=
  h.below ((Below.refl _ _).alloc (Nat.le_refl _) o) hi1
theorem three_cells {w : World} {b : Nat} {t : TypeId} {x y z : Value} {fr : Nat × Nat} (h : w.heap[b]? = some (.cells #[x, y, z] t fr)) :
    w.cell? ⟨b, 0, none⟩ = some x ∧ w.cell? ⟨b, 1, none⟩ = some y ∧ w.cell? ⟨b, 2, none⟩ = some z := by
  simp [World.cell?, h]
theorem sts_snoc (ps : List St) (s : St) : sts (ps ++ [s]) = sts ps ++ s.cells := by simp [sts]
/-- The shape of a slice, its length as it is wanted. -/
theorem RdS.form {w : World} {v : Value} {ps : List St} (h : RdS w v ps) {n : Nat} (hn : ps.length = n) : ∃ ao cap, v = .slice ao n cap := by
  obtain ⟨ao, cap, e, _⟩ := h.shape
  exact ⟨ao, cap, by rw [← hn]; exact e⟩
theorem RdI.form {w : World} {v : Value} {zs : List Int} (h : RdI w v zs) {n : Nat} (hn : zs.length = n) : ∃ ao cap, v = .slice ao n cap := by
  obtain ⟨ao, cap, e, _⟩ := h.shape
  exact ⟨ao, cap, by rw [← hn]; exact e⟩
theorem ret_pm {v : Value} {c d : Int} (h : c = d) : Ending.returned (.tuple #[v, .int .i64 c]) = .returned (.tuple #[v, .int .i64 d]) := by rw [h]
theorem ret_ints {v : Value} {c d : Int} (h : c = d) : Ending.returned (.tuple #[v, .int .i64 c]) = .returned (.tuple #[v, .int .i64 d]) := by rw [h]
theorem take_snoc {α : Type} (l : List α) (m : Nat) (h : m < l.length) : l.take (m + 1) = l.take m ++ [l[m]] := List.take_succ_eq_append_getElem h
theorem ints_set (zs : List Int) (j : Nat) (x : Int) : (ints zs).set j (.int .i64 x) = ints (zs.set j x) := by simp [ints, List.map_set]
theorem ints_snoc (zs : List Int) (x : Int) : ints (zs ++ [x]) = ints zs ++ [.int .i64 x] := by simp [ints]
theorem pmB_at {ws : List Int} {ps : List St} (h : pmB ws ps = true) : ∀ j (hj : j < ps.length), 0 ≤ ps[j].at_ ∧ ps[j].at_ < 336 := fun j hj => placeB_true (pmB_store h j hj).1
theorem pmB_in {ws : List Int} {ps : List St} (h : pmB ws ps = true) : ∀ j (hj : j < ps.length), 0 ≤ ps[j].at_ ∧ ps[j].at_ < ws.length := fun j hj => by
  have h1 := pmB_at h j hj
  have h2 := (pmB_len h).1
  omega
/-- One store, laid in a block of its own, as a slice of one. -/
theorem rd_one (w1 : World) (a x : Int) (f : Bool) : Rd (w1.alloc (.cells #[.int .i64 a, .int .i64 x, .bool f] 52)) 3 (.slice (some ⟨w1.heap.size, 0, none⟩) 1 1) 1 (St.cells ⟨a, x, f⟩) := by
  refine ⟨rfl, _, _, rfl, ⟨Nat.le_refl _, fun e => by cases e⟩, fun _ => ⟨w1.heap.size, 0, rfl, by simp, fun j hj => ?_⟩⟩
  obtain ⟨e0, e1, e2⟩ := three_cells (at_new (w := w1) (o := .cells #[.int .i64 a, .int .i64 x, .bool f] 52) rfl)
  rw [Nat.zero_add]
  rcases (show j = 0 ∨ j = 1 ∨ j = 2 from by omega) with rfl | rfl | rfl
  · exact e0
  · exact e1
  · exact e2
/-- One number, laid in a block of its own, as a slice of one. -/
theorem rd_int (w1 : World) (x : Int) : Rd (w1.alloc (.cells #[.int .i64 x] 3)) 1 (.slice (some ⟨w1.heap.size, 0, none⟩) 1 1) 1 [.int .i64 x] := by
  refine ⟨rfl, _, _, rfl, ⟨Nat.le_refl _, fun e => by cases e⟩, fun _ => ⟨w1.heap.size, 0, rfl, by simp, fun j hj => ?_⟩⟩
  have hj0 : j = 0 := by omega
  subst hj0
  have e := at_new (w := w1) (o := .cells #[.int .i64 x] 3) rfl
  simp only [World.cell?, Nat.add_zero]
  rw [e]
  rfl
theorem cells_one (p : St) : ∀ u ∈ St.cells p, u.oneCell' = true := by
  intro u hu
  simp [St.cells] at hu
  rcases hu with rfl | rfl | rfl <;> rfl
theorem RdI_marks {w : World} {lo hi : Nat} {v : Value} {k : Int} {n : Nat} (h : Row w 3 1 lo hi v n (ints (marks k n))) : RdI w v (marks k n) := by
  unfold RdI
  rw [marks_len]
  exact h.rd
end Go.Proofs.Ytbibjfoimncemah
