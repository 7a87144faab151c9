/- A device copied: by the program. -/
import Derived.Test.YtbjcoeimcdodjaaDoorBlkOwn
namespace Go.Proofs.YtbjcoeimcdodjaaDoor
open Go.RowKit
def CopyInvB (w a : World) (x y : Value) : Prop := Below w.heap.size w a ∧ a.heap[w.heap.size]? = some (.cells #[x, y] 26 (0, 0)) ∧ a.heap[w.heap.size + 1]? = some (.cells #[.slice none 0 0, .slice none 0 0] 26 (0, 0))
theorem CopyInvB.grown {w a b : World} {x y : Value} (h : CopyInvB w a x y) (hg : a.grownBy b none) : CopyInvB w b x y := by
  obtain ⟨h1, h2, h3⟩ := h
  have l2 := (Array.getElem?_eq_some_iff.1 h2).1
  have l3 := (Array.getElem?_eq_some_iff.1 h3).1
  exact ⟨h1.grown hg h1.size (fun k hk => by cases hk), (hg.block _ l2 (by simp)).trans h2, (hg.block _ l3 (by simp)).trans h3⟩
theorem CopyInvB.rd {w a : World} {x y : Value} (h : CopyInvB w a x y) {size : Nat} {v : Value} {n : Nat} {xs : List Value} (hr : Rd w size v n xs) : Rd a size v n xs := hr.below h.1
theorem CopyInvB.base {w a : World} {x y : Value} (h : CopyInvB w a x y) : w.heap.size + 2 ≤ a.heap.size := (Array.getElem?_eq_some_iff.1 h.2.2).1
theorem Row.grownNoneB {a b : World} {e : TypeId} {size lo : Nat} {v : Value} {n : Nat} {xs : List Value} (h : Row a e size lo a.heap.size v n xs) (hg : a.grownBy b none) : Row b e size lo b.heap.size v n xs :=
  (h.same (fun k _ hk => hg.block k hk (by simp))).wide (Nat.le_refl _) hg.size
theorem copyB_end {w b : World} {x y v1 v2 : Value} {ws : List Int} {ps : List Se} (hI : CopyInvB w b x y) (r1 : Row b 3 1 (w.heap.size + 2) b.heap.size v1 ws.length (ints ws)) (r2 : Row b 59 2 (w.heap.size + 2) b.heap.size v2 ps.length (ses ps)) :
    RowBlk3 ((b.setCell ⟨w.heap.size + 1, 0, none⟩ v1).setCell ⟨w.heap.size + 1, 1, none⟩ v2) w.heap.size ((b.setCell ⟨w.heap.size + 1, 0, none⟩ v1).setCell ⟨w.heap.size + 1, 1, none⟩ v2).heap.size (.agg #[v1, v2]) ws ps ∧
      Below w.heap.size w ((b.setCell ⟨w.heap.size + 1, 0, none⟩ v1).setCell ⟨w.heap.size + 1, 1, none⟩ v2) := by
  refine ⟨⟨_, _, rfl, (r1.same fun k h1 h2 => ?_).wide (by omega) (by simp), (r2.same fun k h1 h2 => ?_).wide (by omega) (by simp)⟩, (hI.1.setCell (by simp only; omega) _).setCell (by simp only; omega) _⟩
  · rw [Below.heap_setCell _ _ _ _ (by simp only; omega), Below.heap_setCell _ _ _ _ (by simp only; omega)]
  · rw [Below.heap_setCell _ _ _ _ (by simp only; omega), Below.heap_setCell _ _ _ _ (by simp only; omega)]
set_option maxHeartbeats 4000000 in
theorem copyBlk_any (v : Value) (ws : List Int) (ps : List Se) (w : World) (h : RdBlk w v ws ps) (hw : ws.length ≤ 2147483648) (hp : ps.length ≤ 2147483648) :
    Calls Tryd.prog 32 #[v] w fun e w' => ∃ v', e = .returned v' ∧ RowBlk3 w' w.heap.size w'.heap.size v' ws ps ∧ Below w.heap.size w w' := by
  obtain ⟨vW, vP, rfl, h1, h2⟩ := h
  have H1 := hideIt h1
  have H2 := hideIt h2
  obtain ⟨aW, cW, rfl, _⟩ := h1.shape
  obtain ⟨aP, cP, rfl, _⟩ := h2.shape
  clear h1 h2
  have I0 : CopyInvB w ((w.alloc (.cells #[.slice aW ws.length cW, .slice aP ps.length cP] 26)).alloc (.cells #[.slice none 0 0, .slice none 0 0] 26)).drew (.slice aW ws.length cW) (.slice aP ps.length cP) := by
    refine ⟨Below.drew ?_, at_old (at_new rfl), at_new (by simp)⟩
    repeat (refine Below.alloc ?_ (by simp <;> omega) _)
    exact Below.refl _ _
  have HI := hideIt I0
  clear I0
  go_enter Tryd.func32, Tryd.ntmps32
  go_wp2_with fail
  go_region_law (first
    | (refine step_append_rd rfl (.const (.slice none 0 0)) (.tmp 4) 23 rfl (w.heap.size + 2) 3 (.int .i64 0) 1 8 Tryd.underlying23 info3 rfl (by decide) (.slice none 0 0) 0 [] rfl (World.ownsRow_nil _ _ _ _) (.slice aW ws.length cW) ws.length (ints ws) rfl (by first | exact HI.out.rd H1.out | exact CopyInvB.rd (Hid.out ‹_›) H1.out) (ints_one ws) (by simp [maxLen]; omega) (by omega) (by first | exact HI.out.base | exact CopyInvB.base (Hid.out ‹_›)) ?_; intro v1 w1 hown1 hgr1; have hown1 : w1.ownsRow (w.heap.size + 2) 3 1 v1 ws.length (ints ws) := (by simpa using hown1); have I1 := hideIt (CopyInvB.grown (by first | exact HI.out | exact Hid.out ‹_›) hgr1); obtain ⟨_, a1, c1, rfl, _⟩ := (own_block hown1).rd; obtain ⟨x1, x2, x3, x4⟩ := two_cells I1.out.2.1; obtain ⟨y1, y2, y3, y4⟩ := two_cells I1.out.2.2)
    | (refine step_append_rd rfl (.const (.slice none 0 0)) (.tmp 7) 24 rfl (w.heap.size + 2) 59 (.agg #[.int .i64 0, .int .i64 0]) 2 16 Tryd.underlying24 infoSec rfl (by decide) (.slice none 0 0) 0 [] rfl (World.ownsRow_nil _ _ _ _) (.slice aP ps.length cP) ps.length (ses ps) rfl (by first | exact HI.out.rd H2.out | exact CopyInvB.rd (Hid.out ‹_›) H2.out) (ses_one ps) (by simp [maxLen]; omega) (by omega) (by first | exact HI.out.base | exact CopyInvB.base (Hid.out ‹_›)) ?_; intro v2 w2 hown2 hgr2; have hown2 : w2.ownsRow (w.heap.size + 2) 59 2 v2 ps.length (ses ps) := (by simpa using hown2); have I2 := hideIt (CopyInvB.grown (by first | exact HI.out | exact Hid.out ‹_›) hgr2); obtain ⟨_, a2, c2, rfl, _⟩ := (own_block hown2).rd; obtain ⟨z1, z2, z3, z4⟩ := two_cells I2.out.2.1; obtain ⟨t1, t2, t3, t4⟩ := two_cells I2.out.2.2))
  all_goals
    go_wp2
    refine bodyPost_ret (v := .agg #[.slice a1 ws.length c1, .slice a2 ps.length c2]) (by first | (simp [results, Tryd.results32, go_sem, t1, t2]; done) | (simp [results, Tryd.results32, go_sem, y1, y2]; done)) rfl ?_
    refine ⟨_, rfl, ?_⟩
    first
      | exact copyB_end I2.out (Row.grownNoneB (own_block hown1) hgr2) (own_block hown2)
      | exact copyB_end I1.out (own_block hown1) (Row.grownNoneB (own_block hown2) hgr1)
end Go.Proofs.YtbjcoeimcdodjaaDoor
