/- Several texts laid together: DtC, DtD. -/
import Derived.Test.YtbjjdkemappelaaGreatDoorZBK
import Derived.Test.YtbjjdkemappelaaGreatDoorDev
import Derived.Test.YtbjjdkemappelaaGreatDoorImP
import Derived.Test.YtbjjdkemappelaaGreatDoorZAF
import Derived.Test.YtbjjdkemappelaaGreatDoorZAH
import Derived.Test.YtbjjdkemappelaaGreatDoorZAM
import Derived.Test.YtbjjdkemappelaaGreatDoorPiP
import Derived.Test.YtbjjdkemappelaaGreatDoorImX
import Derived.Test.YtbjjdkemappelaaGreatDoorZAL
import Derived.Test.YtbjjdkemappelaaGreatDoorPiJ
import Derived.Test.YtbjjdkemappelaaGreatDoorRdD
import Derived.Deep.RegionHeld3
import Derived.Maps.Views
import Derived.Deep.LoopGhost
import Derived.Laws.OwnMore
import Derived.Lib.SplitLaws
import Derived.Lib.IndexBytes
import Derived.Deep.DeepCutAuto
import Derived.Deep.RegionWith
import Derived.Lib.Strings
import Derived.BigQuiet
import Derived.Sort.Walk0
import Derived.Laws.Cover1
import Derived.Deep.RegionLaw
namespace Go.Proofs.YtbjjdkemappelaaGreatDoor
open Go.RowKit
def dvN (ws : List Int) (ps : List St) (es : List Int) (qs : List Se) : List Ino := if dvB ws ps es qs = true then inosOf (layW ws ps) 16 else []
def dvD (ws : List Int) (ps : List St) (es : List Int) (qs : List Se) : List Den := if dvB ws ps es qs = true then densOf (layW ws ps) 24 else []
theorem dv_not {ws : List Int} {ps : List St} {es : List Int} {qs : List Se} (h : (pmB ws ps && blkB es qs) = false) : dvB ws ps es qs = false ∧ dvN ws ps es qs = [] ∧ dvD ws ps es qs = [] := by
  have e : dvB ws ps es qs = false := by unfold dvB; rw [h]; rfl
  exact ⟨e, by unfold dvN; rw [e]; rfl, by unfold dvD; rw [e]; rfl⟩
theorem dv_form {ws : List Int} {ps : List St} {es : List Int} {qs : List Se} (h : (pmB ws ps && blkB es qs) = true) : dvB ws ps es qs = (riC ws ps == 0) ∧ dvN ws ps es qs = riN ws ps ∧ dvD ws ps es qs = riD ws ps := by
  have p : pmB ws ps = true := by rw [Bool.and_eq_true] at h; exact h.1
  have e : dvB ws ps es qs = riB (layW ws ps) := by unfold dvB; rw [h]; rfl
  cases q : riB (layW ws ps) with
  | false =>
    obtain ⟨a, b, c⟩ := ri_form p q
    rw [q] at e
    exact ⟨by rw [e, a]; rfl, by unfold dvN; rw [e, b]; rfl, by unfold dvD; rw [e, c]; rfl⟩
  | true =>
    obtain ⟨a, b, c⟩ := ri_ok p q
    rw [q] at e
    exact ⟨by rw [e, a]; rfl, by unfold dvN; rw [e, b]; rfl, by unfold dvD; rw [e, c]; rfl⟩
theorem rowim_set {w : World} {lo hi : Nat} {vI vD : Value} {xs : List Ino} {ds : List Den} {b : Nat} {cs : Array Value} {fr : Nat × Nat} (h1 : Row w 103 11 lo hi vI xs.length (inos xs)) (h2 : Row w 182 3 lo hi vD ds.length (dens ds)) (hb : w.heap[b]? = some (.cells cs 76 fr)) (v0 v1 : Value) : RowIm ((w.setCell ⟨b, 0, none⟩ v0).setCell ⟨b, 1, none⟩ v1) lo hi (.agg #[vI, vD]) xs ds := by
  have T1 := own_type h1.1 hb img_ino
  have T2 := own_type h2.1 hb img_den
  exact ⟨_, _, rfl, ⟨ownsRow_setCell_other (ownsRow_setCell_other h1.1 T1 _) T1 _, h1.2⟩, ⟨ownsRow_setCell_other (ownsRow_setCell_other h2.1 T2 _) T2 _, h2.2⟩⟩
set_option maxRecDepth 100000 in
set_option maxHeartbeats 4000000 in
theorem l08Image_any (v : Value) (ws : List Int) (ps : List St) (es : List Int) (qs : List Se) (w : World) (h : RdDev w v ws ps es qs) (hw : ws.length ≤ 1048576) (hp : ps.length ≤ 1048576) (he : es.length ≤ 1048576) (hq : qs.length ≤ 1048576) :
    Calls Tryz.prog 34 #[v] w fun e w' => ∃ v', e = .returned (.tuple #[v', .bool (dvB ws ps es qs)]) ∧ RowIm w' w.heap.size w'.heap.size v' (dvN ws ps es qs) (dvD ws ps es qs) ∧ Below w.heap.size w w' := by
  have LO := hideIt (fun w1 (hb : Below w.heap.size w w1) => specDevicesOK_any v ws ps es qs w1 (h.below hb) hw hp he hq)
  obtain ⟨aW, cW, aP, cP, aS, cS, aQ, cQ, rfl, h1, h2⟩ := h.form
  have LR := hideIt (fun w1 (hb : Below w.heap.size w w1) => specReadImage_any _ ws ps w1 (h1.below hb) hw hp)
  have NO := hideIt (fun q => dv_not (ws := ws) (ps := ps) (es := es) (qs := qs) q)
  have YES := hideIt (fun q => dv_form (ws := ws) (ps := ps) (es := es) (qs := qs) q)
  clear h h1 h2
  obtain ⟨W1, hW1⟩ : ∃ W1, W1 = (w.alloc (.cells #[.slice aW ws.length cW, .slice aP ps.length cP, .slice aS es.length cS, .slice aQ qs.length cQ] 41)).alloc (.cells #[.slice none 0 0, .slice none 0 0] 76) := ⟨_, rfl⟩
  have hz1 : W1.heap.size = w.heap.size + 1 + 1 := by rw [hW1]; simp
  have CA : Hid (∀ w', Below W1.heap.size W1 w' → w'.cell? ⟨w.heap.size, 0, none⟩ = some (.slice aW ws.length cW) ∧ w'.cell? ⟨w.heap.size, 1, none⟩ = some (.slice aP ps.length cP) ∧ w'.cell? ⟨w.heap.size, 2, none⟩ = some (.slice aS es.length cS) ∧ w'.cell? ⟨w.heap.size, 3, none⟩ = some (.slice aQ qs.length cQ)) := fun w' hb => by
    have : w'.heap[w.heap.size]? = some (.cells #[.slice aW ws.length cW, .slice aP ps.length cP, .slice aS es.length cS, .slice aQ qs.length cQ] 41 (0, 0)) := (hb.block _ (by omega)).trans (by rw [hW1]; exact at_old (at_new rfl))
    obtain ⟨x0, x1, x2, x3, -, -, -, -⟩ := four_cells this
    exact ⟨x0, x1, x2, x3⟩
  have CR : Hid (∀ w', Below W1.heap.size W1 w' → w'.heap[w.heap.size + 1]? = some (.cells #[.slice none 0 0, .slice none 0 0] 76 (0, 0))) := fun w' hb => (hb.block _ (by omega)).trans (by
    rw [hW1]
    have := at_new (w := w.alloc (.cells #[.slice aW ws.length cW, .slice aP ps.length cP, .slice aS es.length cS, .slice aQ qs.length cQ] 41)) (o := .cells #[.slice none 0 0, .slice none 0 0] 76) rfl
    rw [World.size_alloc] at this
    exact this)
  have BW : Hid (Below w.heap.size w W1) := by rw [hW1]; exact ((Below.refl _ _).alloc (Nat.le_refl _) _).alloc (by simp) _
  have hz0 : w.heap.size + 1 < W1.heap.size := by omega
  clear hz1
  obtain ⟨x0, x1, x2, x3⟩ := CA.out W1 (Below.refl _ _)
  generalize riC ws ps = rc at *
  generalize riN ws ps = rn at *
  generalize riD ws ps = rd at *
  generalize dvB ws ps es qs = db at *
  generalize dvN ws ps es qs = dn at *
  generalize dvD ws ps es qs = dd at *
  generalize (pmB ws ps && blkB es qs) = ok at *
  go_enter Tryz.func34, Tryz.ntmps34
  go_wp2_with fail
  rw [← hW1]
  clear hW1
  refine (LO.out _ BW.out).mono ?_
  rintro e w1 ⟨rfl, hb1⟩
  have B1 := hideIt hb1
  have B1w := hideIt (below_trans BW.out B1.out BW.out.size)
  clear x0 x1 x2 x3 hb1
  obtain ⟨x0, x1, x2, x3⟩ := CA.out w1 B1.out
  cases ok with
  | false =>
    obtain ⟨rfl, rfl, rfl⟩ := NO.out rfl
    have CB := hideIt (CR.out _ B1.out)
    obtain ⟨p0, p1, p2, p3⟩ := two_cells CB.out
    have BR : Hid (Below w.heap.size w ((w1.setCell ⟨w.heap.size + 1, 0, none⟩ (.slice none 0 0)).setCell ⟨w.heap.size + 1, 1, none⟩ (.slice none 0 0))) := (B1w.out.setCell (by simp only; omega) _).setCell (by simp only; omega) _
    clear NO YES
    go_wp2
    refine bodyPost_ret (v := .tuple #[.agg #[.slice none 0 0, .slice none 0 0], .bool false]) (by simp [results, Tryz.results34, go_sem, p0, p1]) rfl ?_
    exact ⟨_, rfl, rowim_nil _ _ _, BR.out⟩
  | true =>
    obtain ⟨rfl, rfl, rfl⟩ := YES.out rfl
    clear NO YES
    go_wp2_with fail
    refine (LR.out _ B1w.out).mono ?_
    rintro e w2 ⟨v2, rfl, ⟨vI, vD, rfl, hI, hD⟩, hb2⟩
    obtain ⟨-, a1, c1, hv1, -⟩ := hI.rd
    obtain ⟨-, a2, c2, hv2, -⟩ := hD.rd
    subst hv1
    subst hv2
    have HI := hideIt hI
    have HD := hideIt hD
    have B2 := hideIt (bel2 B1.out hb2)
    have B3 : Hid (Below W1.heap.size W1 (w2.alloc (.cells #[.slice a1 dn.length c1, .slice a2 dd.length c2] 76))) := below_allocB B2.out _
    have hz12 : W1.heap.size ≤ w1.heap.size := B1.out.size
    have hz2 : w1.heap.size ≤ w2.heap.size := hb2.size
    have hzw : w.heap.size ≤ w1.heap.size := B1w.out.size
    clear x0 x1 x2 x3 hb2 hI hD
    obtain ⟨y0, y1, _, _⟩ := two_cells (at_new (w := w2) (o := .cells #[.slice a1 dn.length c1, .slice a2 dd.length c2] 76) rfl)
    obtain ⟨w3, hw3⟩ : ∃ w3, w3 = w2.alloc (.cells #[.slice a1 dn.length c1, .slice a2 dd.length c2] 76) := ⟨_, rfl⟩
    have BC : Hid (Below w2.heap.size w2 w3) := by rw [hw3]; exact (Below.refl _ _).alloc (Nat.le_refl _) _
    rw [← hw3] at B3 y0 y1
    have HI3 := hideIt (HI.out.below BC.out (Nat.le_refl _))
    have HD3 := hideIt (HD.out.below BC.out (Nat.le_refl _))
    have hz3 : w2.heap.size ≤ w3.heap.size := BC.out.size
    have CB := hideIt (CR.out _ B3.out)
    obtain ⟨p0, p1, p2, p3⟩ := two_cells CB.out
    have BR : Hid (Below w.heap.size w ((w3.setCell ⟨w.heap.size + 1, 0, none⟩ (.slice a1 dn.length c1)).setCell ⟨w.heap.size + 1, 1, none⟩ (.slice a2 dd.length c2))) := ((below_trans BW.out B3.out BW.out.size).setCell (by simp only; omega) _).setCell (by simp only; omega) _
    have RF := hideIt (rowim_wide (rowim_set HI3.out HD3.out CB.out (.slice a1 dn.length c1) (.slice a2 dd.length c2)) (lo' := w.heap.size) (hi' := ((w3.setCell ⟨w.heap.size + 1, 0, none⟩ (.slice a1 dn.length c1)).setCell ⟨w.heap.size + 1, 1, none⟩ (.slice a2 dd.length c2)).heap.size) (by omega) (by simp; omega))
    clear CB HI HD HI3 HD3 BC B3 B2 LR LO CA CR
    subst hw3
    go_wp2
    refine bodyPost_ret (v := .tuple #[.agg #[.slice a1 dn.length c1, .slice a2 dd.length c2], .bool (rc == 0)]) (by simp [results, Tryz.results34, go_sem, p0, p1]) rfl ?_
    exact ⟨_, rfl, RF.out, BR.out⟩
end Go.Proofs.YtbjjdkemappelaaGreatDoor

namespace Go.Proofs.YtbjjdkemappelaaGreatDoor
open Go.RowKit
theorem dv_yes {ws : List Int} {ps : List St} {es : List Int} {qs : List Se} (h : dvB ws ps es qs = true) : pmB ws ps = true ∧ blkB es qs = true ∧ dvN ws ps es qs = inosOf (layW ws ps) 16 ∧ dvD ws ps es qs = densOf (layW ws ps) 24 ∧ imgB (inosOf (layW ws ps) 16) (densOf (layW ws ps) 24) = true := by
  have q := h
  unfold dvB at q
  rw [Bool.and_eq_true, Bool.and_eq_true] at q
  obtain ⟨⟨a, b⟩, r⟩ := q
  unfold riB at r
  rw [Bool.and_eq_true, Bool.and_eq_true] at r
  exact ⟨a, b, by unfold dvN; rw [if_pos h], by unfold dvD; rw [if_pos h], r.2.2⟩
end Go.Proofs.YtbjjdkemappelaaGreatDoor
