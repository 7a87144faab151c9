/- Several texts laid together: DevI, FqE. -/
import Derived.Test.YtlkmnpanddchdaaDev
import Derived.Test.YtlkmnpanddchdaaPmOKI
import Derived.Test.YtlkmnpanddchdaaBlkOKI
import Derived.Test.YtlkmnpanddchdaaZAX
import Derived.Test.YtlkmnpanddchdaaZAZ
import Derived.Test.YtlkmnpanddchdaaWord
import Derived.Test.YtlkmnpanddchdaaZAU
import Derived.Test.YtlkmnpanddchdaaZAT
import Derived.Test.YtlkmnpanddchdaaZAO
import Derived.Test.YtlkmnpanddchdaaMem
import Derived.Test.YtlkmnpanddchdaaZAQ
import Derived.Test.YtlkmnpanddchdaaZBA
import Derived.Test.YtlkmnpanddchdaaJrQ
import Derived.Test.YtlkmnpanddchdaaZBD
import Derived.Test.YtlkmnpanddchdaaZBF
import Derived.Test.YtlkmnpanddchdaaJlB
import Derived.Test.YtlkmnpanddchdaaZAS
import Derived.Maps.Views
import Derived.Deep.LoopGhost
import Derived.Deep.RegionHeld3
import Derived.Deep.RegionLaw
import Derived.Laws.CopyRow
import Derived.Laws.CopyOwn
import Derived.Laws.Cover3
import Derived.Laws.OwnMore
import Derived.Lib.SplitLaws
import Derived.Lib.IndexBytes
import Derived.Laws.IdiomStrings
import Derived.Laws.BytesArg
import Derived.Deep.OwnRows
import Derived.WalkKit
import Derived.BigQuiet
import Derived.Sort.Walk0
import Derived.Laws.Cover1
import Derived.Deep.RegionWith
namespace Go.Proofs.Ytlkmnpanddchdaa
open Go.RowKit

set_option maxHeartbeats 2000000 in
theorem implDevicesOK_any (v : Value) (ws : List Int) (ps : List St) (es : List Int) (qs : List Se) (w : World) (h : RdDev w v ws ps es qs) (hw : ws.length ≤ 1048576) (hp : ps.length ≤ 1048576) (he : es.length ≤ 1048576) (hq : qs.length ≤ 1048576) :
    Calls Try.prog 19 #[v] w fun e w' => e = .returned (.bool (pmB ws ps && blkB es qs)) ∧ Below w.heap.size w w' := by
  obtain ⟨aW, cW, aP, cP, aS, cS, aQ, cQ, rfl, h1, h2⟩ := h.form
  have H1 := hideIt h1
  have H2 := hideIt h2
  clear h h1 h2
  have hb0 : Below w.heap.size w (w.alloc (.cells #[.slice aW ws.length cW, .slice aP ps.length cP, .slice aS es.length cS, .slice aQ qs.length cQ] 42)) := (Below.refl _ _).alloc (Nat.le_refl _) _
  by_cases c : pmB ws ps = true
  · have C := hideIt c
    rw [c]
    clear c
    go_enter Try.func19, Try.ntmps19
    go_wp2_with fail
    refine (implPmOK_any _ ws ps _ (H1.out.below hb0) hw hp).mono ?_
    rw [C.out]
    rintro e w1 ⟨rfl, hb1⟩
    obtain ⟨x0, x1, x2, x3, -, -, -, -⟩ := four_cells ((hb1.block w.heap.size (by simp)).trans (at_new rfl))
    have B1 := hideIt (below_trans hb0 hb1 (by simp))
    clear hb0 hb1
    go_wp2_with fail
    refine (implBlkOK_any _ es qs _ (H2.out.below B1.out) he hq).mono ?_
    rintro e w2 ⟨rfl, hb2⟩
    have B2 := hideIt (below_trans B1.out hb2 B1.out.size)
    clear hb2
    go_wp2
    go_ret
    exact ⟨rfl, B2.out⟩
  · have c' : pmB ws ps = false := by simpa using c
    have C := hideIt c'
    rw [c']
    clear c c'
    go_enter Try.func19, Try.ntmps19
    go_wp2_with fail
    refine (implPmOK_any _ ws ps _ (H1.out.below hb0) hw hp).mono ?_
    rw [C.out]
    rintro e w1 ⟨rfl, hb1⟩
    have B1 := hideIt (below_trans hb0 hb1 (by simp))
    clear hb0 hb1
    go_wp2
    go_ret
    exact ⟨rfl, B1.out⟩

end Go.Proofs.Ytlkmnpanddchdaa

namespace Go.Proofs.Ytlkmnpanddchdaa
open Go.RowKit

set_option maxRecDepth 100000 in
set_option maxHeartbeats 8000000 in
theorem allSure_any (aW aP aS aQ : Option Addr) (n m p q cW cP cS cQ : Nat) (w : World) (hm : m ≤ 1048576) (hq : q ≤ 1048576) :
    Calls Try.prog 20 #[.agg #[.slice aW n cW, .slice aP m cP, .slice aS p cS, .slice aQ q cQ]] w fun e w' => e = .returned (.bool (decide (m = 0) && decide (q = 0))) ∧ Below w.heap.size w w' := by
  have BW : Hid (Below w.heap.size w (w.alloc (.cells #[.slice aW n cW, .slice aP m cP, .slice aS p cS, .slice aQ q cQ] 42))) := (Below.refl _ _).alloc (Nat.le_refl _) _
  by_cases a1 : m = 0
  · subst a1
    by_cases a2 : q = 0
    · subst a2
      go_enter Try.func20, Try.ntmps20
      go_wp2
      go_ret
      exact ⟨ret_bool (by first | rfl | exact decide_eq_false (by assumption) | exact decide_eq_false (by omega) | exact decide_eq_true (by omega)), BW.out⟩
    · rw [decide_eq_false a2]
      have a2' : ¬ (q : Int) = 0 := by omega
      go_enter Try.func20, Try.ntmps20
      go_wp2
      go_ret
      exact ⟨ret_bool (by first | rfl | exact decide_eq_false (by assumption) | exact decide_eq_false (by omega) | exact decide_eq_true (by omega)), BW.out⟩
  · rw [decide_eq_false a1]
    have a1' : ¬ (m : Int) = 0 := by omega
    go_enter Try.func20, Try.ntmps20
    go_wp2
    go_ret
    exact ⟨ret_bool (by first | rfl | exact decide_eq_false (by assumption) | exact decide_eq_false (by omega) | exact decide_eq_true (by omega)), BW.out⟩
end Go.Proofs.Ytlkmnpanddchdaa
