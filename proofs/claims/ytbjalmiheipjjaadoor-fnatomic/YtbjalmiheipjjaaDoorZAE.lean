/- Several texts laid together: Dev, Wd, MiS. -/
import Derived.Test.YtbjalmiheipjjaaDoorZAB
import Derived.Test.YtbjalmiheipjjaaDoorZAC
import Derived.Test.YtbjalmiheipjjaaDoorZAD
import Derived.Test.YtbjalmiheipjjaaDoorMem
namespace Go.Proofs.YtbjalmiheipjjaaDoor
open Go.RowKit
theorem four_cells {w : World} {b : Nat} {t : TypeId} {x y z u : Value} (h : w.heap[b]? = some (.cells #[x, y, z, u] t (0, 0))) :
    w.cell? ⟨b, 0, none⟩ = some x ∧ w.cell? ⟨b, 1, none⟩ = some y ∧ w.cell? ⟨b, 2, none⟩ = some z ∧ w.cell? ⟨b, 3, none⟩ = some u ∧ w.frozen? ⟨b, 0, none⟩ = false ∧ w.frozen? ⟨b, 1, none⟩ = false ∧ w.frozen? ⟨b, 2, none⟩ = false ∧ w.frozen? ⟨b, 3, none⟩ = false := by
  simp [World.cell?, World.frozen?, h]
def RdDev (w : World) (v : Value) (ws : List Int) (ps : List St) (es : List Int) (qs : List Se) : Prop := ∃ vW vP vS vQ, v = .agg #[vW, vP, vS, vQ] ∧ RdPm w (.agg #[vW, vP]) ws ps ∧ RdBlk w (.agg #[vS, vQ]) es qs
def RowDev (w : World) (lo hi : Nat) (v : Value) (ws : List Int) (ps : List St) (es : List Int) (qs : List Se) : Prop :=
  ∃ vW vP vS vQ l1 h1 l2 h2, v = .agg #[vW, vP, vS, vQ] ∧ RowPm w l1 h1 (.agg #[vW, vP]) ws ps ∧ RowBlk w l2 h2 (.agg #[vS, vQ]) es qs ∧ (lo ≤ l1 ∧ h1 ≤ hi ∧ lo ≤ l2 ∧ h2 ≤ hi ∧ (h1 ≤ l2 ∨ h2 ≤ l1))
theorem RowDev.rd {w : World} {lo hi : Nat} {v : Value} {ws : List Int} {ps : List St} {es : List Int} {qs : List Se} (h : RowDev w lo hi v ws ps es qs) : RdDev w v ws ps es qs := by
  obtain ⟨vW, vP, vS, vQ, _, _, _, _, e, h1, h2, _⟩ := h
  exact ⟨vW, vP, vS, vQ, e, h1.rd, h2.rd⟩
theorem RdDev.below {w w' : World} {v : Value} {ws : List Int} {ps : List St} {es : List Int} {qs : List Se} (h : RdDev w v ws ps es qs) (hb : Below w.heap.size w w') : RdDev w' v ws ps es qs := by
  obtain ⟨vW, vP, vS, vQ, e, h1, h2⟩ := h
  exact ⟨vW, vP, vS, vQ, e, h1.below hb, h2.below hb⟩
theorem RowDev.below {w w' : World} {lo hi : Nat} {v : Value} {ws : List Int} {ps : List St} {es : List Int} {qs : List Se} (h : RowDev w lo hi v ws ps es qs) {B : Nat} (hb : Below B w w') (hB : hi ≤ B) : RowDev w' lo hi v ws ps es qs := by
  obtain ⟨vW, vP, vS, vQ, l1, h1, l2, h2, e, r1, r2, c⟩ := h
  exact ⟨vW, vP, vS, vQ, l1, h1, l2, h2, e, r1.below hb (by omega), r2.below hb (by omega), c⟩
theorem RowDev.outside {w w' : World} {lo hi : Nat} {v : Value} {ws : List Int} {ps : List St} {es : List Int} {qs : List Se} (h : RowDev w lo hi v ws ps es qs) {lo' hi' : Nat} (ho : Outside lo' hi' w w') (hd : hi ≤ lo' ∨ hi' ≤ lo) (hz : hi ≤ w.heap.size) : RowDev w' lo hi v ws ps es qs := by
  obtain ⟨vW, vP, vS, vQ, l1, h1, l2, h2, e, r1, r2, c⟩ := h
  exact ⟨vW, vP, vS, vQ, l1, h1, l2, h2, e, r1.outside ho (by omega) (by omega), r2.outside ho (by omega) (by omega), c⟩
theorem RowDev.wide {w : World} {lo hi : Nat} {v : Value} {ws : List Int} {ps : List St} {es : List Int} {qs : List Se} (h : RowDev w lo hi v ws ps es qs) {lo' hi' : Nat} (a : lo' ≤ lo) (b : hi ≤ hi') : RowDev w lo' hi' v ws ps es qs := by
  obtain ⟨vW, vP, vS, vQ, l1, h1, l2, h2, e, r1, r2, c⟩ := h
  exact ⟨vW, vP, vS, vQ, l1, h1, l2, h2, e, r1, r2, by omega⟩
theorem RowDev.alloc {w : World} {lo hi : Nat} {v : Value} {ws : List Int} {ps : List St} {es : List Int} {qs : List Se} (h : RowDev w lo hi v ws ps es qs) (hz : hi ≤ w.heap.size) (o : Obj) : RowDev (w.alloc o) lo hi v ws ps es qs := h.below ((Below.refl _ _).alloc (Nat.le_refl _) o) hz
theorem RdDev.form {w : World} {v : Value} {ws : List Int} {ps : List St} {es : List Int} {qs : List Se} (h : RdDev w v ws ps es qs) : ∃ aW cW aP cP aS cS aQ cQ, v = .agg #[.slice aW ws.length cW, .slice aP ps.length cP, .slice aS es.length cS, .slice aQ qs.length cQ] ∧ RdPm w (.agg #[.slice aW ws.length cW, .slice aP ps.length cP]) ws ps ∧ RdBlk w (.agg #[.slice aS es.length cS, .slice aQ qs.length cQ]) es qs := by
  obtain ⟨vW, vP, vS, vQ, rfl, ⟨_, _, e1, h1, h2⟩, ⟨_, _, e2, h3, h4⟩⟩ := h
  cases e1
  cases e2
  obtain ⟨aW, cW, rfl, _⟩ := h1.shape
  obtain ⟨aP, cP, rfl, _⟩ := h2.shape
  obtain ⟨aS, cS, rfl, _⟩ := h3.shape
  obtain ⟨aQ, cQ, rfl, _⟩ := h4.shape
  exact ⟨aW, cW, aP, cP, aS, cS, aQ, cQ, rfl, ⟨_, _, rfl, h1, h2⟩, ⟨_, _, rfl, h3, h4⟩⟩
theorem RowPm.form {w : World} {lo hi : Nat} {v : Value} {ws : List Int} {ps : List St} (h : RowPm w lo hi v ws ps) : ∃ aW cW aP cP, v = .agg #[.slice aW ws.length cW, .slice aP ps.length cP] := by
  obtain ⟨vW, vP, rfl, h1, h2⟩ := h.rd
  obtain ⟨aW, cW, rfl, _⟩ := h1.shape
  obtain ⟨aP, cP, rfl, _⟩ := h2.shape
  exact ⟨aW, cW, aP, cP, rfl⟩
theorem RowBlk.form {w : World} {lo hi : Nat} {v : Value} {ws : List Int} {ps : List Se} (h : RowBlk w lo hi v ws ps) : ∃ aW cW aP cP, v = .agg #[.slice aW ws.length cW, .slice aP ps.length cP] := by
  obtain ⟨vW, vP, rfl, h1, h2⟩ := h.rd
  obtain ⟨aW, cW, rfl, _⟩ := h1.shape
  obtain ⟨aP, cP, rfl, _⟩ := h2.shape
  exact ⟨aW, cW, aP, cP, rfl⟩
end Go.Proofs.YtbjalmiheipjjaaDoor

namespace Go.Proofs.YtbjalmiheipjjaaDoor
open Go.RowKit
theorem l01In_yes (n lo hi : Int) (w : World) (h : lo ≤ n ∧ n ≤ hi) : Calls Tryd.prog 60 #[.int .i64 n, .int .i64 lo, .int .i64 hi] w fun e w' => e = .returned (.bool true) ∧ w' = w := by
  obtain ⟨h1, h2⟩ := h
  go_enter Tryd.func60, Tryd.ntmps60
  go_wp2
  go_ret
  exact ⟨rfl, rfl⟩
theorem l01In_no (n lo hi : Int) (w : World) (h : ¬ (lo ≤ n ∧ n ≤ hi)) : Calls Tryd.prog 60 #[.int .i64 n, .int .i64 lo, .int .i64 hi] w fun e w' => e = .returned (.bool false) ∧ w' = w := by
  rcases (show ¬ lo ≤ n ∨ (lo ≤ n ∧ ¬ n ≤ hi) by omega) with h1 | ⟨h1, h2⟩
  all_goals
    clear h
    go_enter Tryd.func60, Tryd.ntmps60
    go_wp2
    go_ret
    exact ⟨rfl, rfl⟩
theorem isIndex_yes (n hi : Int) (w : World) (h : 0 ≤ n ∧ n < hi) : Calls Tryd.prog 47 #[.int .i64 n, .int .i64 hi] w fun e w' => e = .returned (.bool true) ∧ w' = w := by
  obtain ⟨h1, h2⟩ := h
  go_enter Tryd.func47, Tryd.ntmps47
  go_wp2
  go_ret
  exact ⟨rfl, rfl⟩
theorem isIndex_no (n hi : Int) (w : World) (h : ¬ (0 ≤ n ∧ n < hi)) : Calls Tryd.prog 47 #[.int .i64 n, .int .i64 hi] w fun e w' => e = .returned (.bool false) ∧ w' = w := by
  rcases (show ¬ 0 ≤ n ∨ (0 ≤ n ∧ ¬ n < hi) by omega) with h1 | ⟨h1, h2⟩
  all_goals
    clear h
    go_enter Tryd.func47, Tryd.ntmps47
    go_wp2
    go_ret
    exact ⟨rfl, rfl⟩
end Go.Proofs.YtbjalmiheipjjaaDoor

namespace Go.Proofs.YtbjalmiheipjjaaDoor
open Go.RowKit
structure Mi where
  kind : Int
  at_ : Int
  val : Int
def miB (m : Mi) : Bool := decide ((m.kind = 1 ∧ (0 ≤ m.at_ ∧ m.at_ < 336) ∧ 0 ≤ m.val ∧ m.val < 1099511627776) ∨ (m.kind = 2 ∧ (0 ≤ m.at_ ∧ m.at_ < 336) ∧ m.val = 0) ∨ (m.kind = 4 ∧ (0 ≤ m.at_ ∧ m.at_ < 32) ∧ 0 ≤ m.val ∧ m.val < 1099511627776) ∨ ((m.kind = 3 ∨ m.kind = 5) ∧ m.at_ = 0 ∧ m.val = 0))
theorem miB_iff {m : Mi} : miB m = true ↔ ((m.kind = 1 ∧ (0 ≤ m.at_ ∧ m.at_ < 336) ∧ 0 ≤ m.val ∧ m.val < 1099511627776) ∨ (m.kind = 2 ∧ (0 ≤ m.at_ ∧ m.at_ < 336) ∧ m.val = 0) ∨ (m.kind = 4 ∧ (0 ≤ m.at_ ∧ m.at_ < 32) ∧ 0 ≤ m.val ∧ m.val < 1099511627776) ∨ ((m.kind = 3 ∨ m.kind = 5) ∧ m.at_ = 0 ∧ m.val = 0)) := by unfold miB; exact decide_eq_true_iff
theorem miB_of (k a v : Int) : miB ⟨k, a, v⟩ = true ↔ ((k = 1 ∧ (0 ≤ a ∧ a < 336) ∧ 0 ≤ v ∧ v < 1099511627776) ∨ (k = 2 ∧ (0 ≤ a ∧ a < 336) ∧ v = 0) ∨ (k = 4 ∧ (0 ≤ a ∧ a < 32) ∧ 0 ≤ v ∧ v < 1099511627776) ∨ ((k = 3 ∨ k = 5) ∧ a = 0 ∧ v = 0)) := miB_iff
end Go.Proofs.YtbjalmiheipjjaaDoor
