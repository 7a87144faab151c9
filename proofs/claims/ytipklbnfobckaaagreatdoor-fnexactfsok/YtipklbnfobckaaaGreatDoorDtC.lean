/- The image of devices: by the model. -/
import Derived.Test.YtipklbnfobckaaaGreatDoorZBM
import Derived.Test.YtipklbnfobckaaaGreatDoorDev
import Derived.Test.YtipklbnfobckaaaGreatDoorZBJ
import Derived.Test.YtipklbnfobckaaaGreatDoorZAS
import Derived.Test.YtipklbnfobckaaaGreatDoorZAL
import Derived.Test.YtipklbnfobckaaaGreatDoorImX
import Derived.Test.YtipklbnfobckaaaGreatDoorZAQ
import Derived.Test.YtipklbnfobckaaaGreatDoorZAR
import Derived.Test.YtipklbnfobckaaaGreatDoorPiJ
import Derived.Test.YtipklbnfobckaaaGreatDoorRdD
import Derived.Deep.RegionHeld3
import Derived.Maps.Views
import Derived.Deep.LoopGhost
import Derived.Laws.OwnMore
import Derived.Lib.SplitLaws
import Derived.Lib.IndexBytes
import Derived.BigQuiet
import Derived.Sort.Walk0
import Derived.Laws.Cover1
import Derived.Deep.RegionLaw
namespace Go.Proofs.YtipklbnfobckaaaGreatDoor
open Go.RowKit

/-- The image of devices; none where there is no right one. -/
def dvN (ws : List Int) (ps : List St) (es : List Int) (qs : List Se) : List Ino := if dvB ws ps es qs = true then inosOf (layW ws ps) 16 else []
def dvD (ws : List Int) (ps : List St) (es : List Int) (qs : List Se) : List Den := if dvB ws ps es qs = true then densOf (layW ws ps) 24 else []
theorem dv_not {ws : List Int} {ps : List St} {es : List Int} {qs : List Se} (h : (pmB ws ps && blkB es qs) = false) : dvB ws ps es qs = false ∧ dvN ws ps es qs = [] ∧ dvD ws ps es qs = [] := by
  have e : dvB ws ps es qs = false := by unfold dvB; rw [h]; rfl
  exact ⟨e, by unfold dvN; rw [e]; rfl, by unfold dvD; rw [e]; rfl⟩
theorem dv_form {ws : List Int} {ps : List St} {es : List Int} {qs : List Se} (h : (pmB ws ps && blkB es qs) = true) : dvB ws ps es qs = (riC ws ps == 0) ∧ dvN ws ps es qs = riN ws ps ∧ dvD ws ps es qs = riD ws ps := by
  have p : pmB ws ps = true := by rw [Bool.and_eq_true] at h; exact h.1
  have e : dvB ws ps es qs = riB (layW ws ps) := by unfold dvB; rw [h]; rfl
  cases q : riB (layW ws ps) with
  | false =>
    obtain ⟨a, b, c⟩ := ri_form p q
    rw [q] at e
    exact ⟨by rw [e, a]; rfl, by unfold dvN; rw [e, b]; rfl, by unfold dvD; rw [e, c]; rfl⟩
  | true =>
    obtain ⟨a, b, c⟩ := ri_ok p q
    rw [q] at e
    exact ⟨by rw [e, a]; rfl, by unfold dvN; rw [e, b]; rfl, by unfold dvD; rw [e, c]; rfl⟩
theorem rowim_set {w : World} {lo hi : Nat} {vI vD : Value} {xs : List Ino} {ds : List Den} {b : Nat} {cs : Array Value} {fr : Nat × Nat} (h1 : Row w 171 11 lo hi vI xs.length (inos xs)) (h2 : Row w 173 3 lo hi vD ds.length (dens ds)) (hb : w.heap[b]? = some (.cells cs 83 fr)) (v0 v1 : Value) : RowIm ((w.setCell ⟨b, 0, none⟩ v0).setCell ⟨b, 1, none⟩ v1) lo hi (.agg #[vI, vD]) xs ds := by
  have T1 := own_type h1.1 hb img_ino
  have T2 := own_type h2.1 hb img_den
  exact ⟨_, _, rfl, ⟨ownsRow_setCell_other (ownsRow_setCell_other h1.1 T1 _) T1 _, h1.2⟩, ⟨ownsRow_setCell_other (ownsRow_setCell_other h2.1 T2 _) T2 _, h2.2⟩⟩

end Go.Proofs.YtipklbnfobckaaaGreatDoor
