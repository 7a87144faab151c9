/- The image of devices: by the program. -/
import Derived.Test.YtbjjdkemappelaaGreatDoorZBP
import Derived.Test.YtbjjdkemappelaaGreatDoorRdF
import Derived.Test.YtbjjdkemappelaaGreatDoorZBK
namespace Go.Proofs.YtbjjdkemappelaaGreatDoor
open Go.RowKit
theorem dv_blk {ws : List Int} {ps : List St} {es : List Int} {qs : List Se} (h : blkB es qs = false) : dvN ws ps es qs = [] ∧ dvD ws ps es qs = [] := (dv_not (by rw [h, Bool.and_false])).2
theorem dv_ri {ws : List Int} {ps : List St} {es : List Int} {qs : List Se} (h : blkB es qs = true) : dvN ws ps es qs = riN ws ps ∧ dvD ws ps es qs = riD ws ps := by
  cases p : pmB ws ps with
  | true => exact (dv_form (by rw [p, h]; rfl)).2
  | false =>
    obtain ⟨-, a, b⟩ := ri_not p
    obtain ⟨-, c, d⟩ := dv_not (ws := ws) (ps := ps) (es := es) (qs := qs) (by rw [p]; rfl)
    exact ⟨by rw [a, c], by rw [b, d]⟩
theorem dv_none {ws : List Int} {ps : List St} {es : List Int} {qs : List Se} (h : ¬ dvB ws ps es qs = true) : dvN ws ps es qs = [] ∧ dvD ws ps es qs = [] := ⟨by unfold dvN; rw [if_neg h], by unfold dvD; rw [if_neg h]⟩
theorem dv_R {ws : List Int} {ps : List St} {es : List Int} {qs : List Se} : ∀ k (h : k < (dvN ws ps es qs).length), (dvN ws ps es qs)[k].R := by
  by_cases c : dvB ws ps es qs = true
  · obtain ⟨p, -, e, -, -⟩ := dv_yes c
    rw [e]
    exact inosOf_R p 16
  · rw [(dv_none c).1]
    intro k h
    cases h
theorem dv_name {ws : List Int} {ps : List St} {es : List Int} {qs : List Se} : ∀ k (h : k < (dvD ws ps es qs).length), (dvD ws ps es qs)[k].name.size ≤ maxLen := by
  by_cases c : dvB ws ps es qs = true
  · obtain ⟨p, -, -, e, -⟩ := dv_yes c
    rw [e]
    exact densOf_name _ 24
  · rw [(dv_none c).2]
    intro k h
    cases h
theorem dv_len (ws : List Int) (ps : List St) (es : List Int) (qs : List Se) : (dvN ws ps es qs).length ≤ 1048576 ∧ (dvD ws ps es qs).length ≤ 1048576 := by
  by_cases c : dvB ws ps es qs = true
  · obtain ⟨-, -, e1, e2, -⟩ := dv_yes c
    rw [e1, e2, inosOf_len, densOf_len]
    omega
  · rw [(dv_none c).1, (dv_none c).2]
    exact ⟨by simp, by simp⟩
theorem img_none : imgB [] [] = false := by decide
theorem dv_img (ws : List Int) (ps : List St) (es : List Int) (qs : List Se) : imgB (dvN ws ps es qs) (dvD ws ps es qs) = dvB ws ps es qs := by
  by_cases c : dvB ws ps es qs = true
  · obtain ⟨-, -, e1, e2, h⟩ := dv_yes c
    rw [e1, e2, h, c]
  · rw [(dv_none c).1, (dv_none c).2, img_none]
    exact ((Bool.not_eq_true _).mp c).symm
set_option maxRecDepth 100000 in
set_option maxHeartbeats 4000000 in
theorem seenImage_any (v : Value) (ws : List Int) (ps : List St) (es : List Int) (qs : List Se) (w : World) (h : RdDev w v ws ps es qs) (hw : ws.length ≤ 1048576) (hp : ps.length ≤ 1048576) (he : es.length ≤ 1048576) (hq : qs.length ≤ 1048576) (hT : TS w) (hE : ED w) (hF : FD w) :
    Calls Tryz.prog 73 #[v] w fun e w' => ∃ v', e = .returned v' ∧ RowIm w' w.heap.size w'.heap.size v' (dvN ws ps es qs) (dvD ws ps es qs) ∧ Below w.heap.size w w' := by
  obtain ⟨aW, cW, aP, cP, aS, cS, aQ, cQ, rfl, h1, h2⟩ := h.form
  have LO := hideIt (fun w1 (hb : Below w.heap.size w w1) => implBlkOK_any _ es qs w1 (h2.below hb) he hq)
  have LR := hideIt (fun w1 (hb : Below w.heap.size w w1) => implReadImage_any _ ws ps w1 (h1.below hb) hw hp (hT.below hb) (hE.below hb) (hF.below hb))
  have NO := hideIt (fun q => dv_blk (ws := ws) (ps := ps) (es := es) (qs := qs) q)
  have YES := hideIt (fun q => dv_ri (ws := ws) (ps := ps) (es := es) (qs := qs) q)
  clear h h1 h2 hT hE hF
  obtain ⟨W1, hW1⟩ : ∃ W1, W1 = (w.alloc (.cells #[.slice aW ws.length cW, .slice aP ps.length cP, .slice aS es.length cS, .slice aQ qs.length cQ] 41)).alloc (.cells #[.slice none 0 0, .slice none 0 0] 76) := ⟨_, rfl⟩
  have hz1 : W1.heap.size = w.heap.size + 1 + 1 := by rw [hW1]; simp
  have CA : Hid (∀ w', Below W1.heap.size W1 w' → w'.cell? ⟨w.heap.size, 0, none⟩ = some (.slice aW ws.length cW) ∧ w'.cell? ⟨w.heap.size, 1, none⟩ = some (.slice aP ps.length cP) ∧ w'.cell? ⟨w.heap.size, 2, none⟩ = some (.slice aS es.length cS) ∧ w'.cell? ⟨w.heap.size, 3, none⟩ = some (.slice aQ qs.length cQ)) := fun w' hb => by
    have : w'.heap[w.heap.size]? = some (.cells #[.slice aW ws.length cW, .slice aP ps.length cP, .slice aS es.length cS, .slice aQ qs.length cQ] 41 (0, 0)) := (hb.block _ (by omega)).trans (by rw [hW1]; exact at_old (at_new rfl))
    obtain ⟨x0, x1, x2, x3, -, -, -, -⟩ := four_cells this
    exact ⟨x0, x1, x2, x3⟩
  have CR : Hid (∀ w', Below W1.heap.size W1 w' → w'.heap[w.heap.size + 1]? = some (.cells #[.slice none 0 0, .slice none 0 0] 76 (0, 0))) := fun w' hb => (hb.block _ (by omega)).trans (by
    rw [hW1]
    have := at_new (w := w.alloc (.cells #[.slice aW ws.length cW, .slice aP ps.length cP, .slice aS es.length cS, .slice aQ qs.length cQ] 41)) (o := .cells #[.slice none 0 0, .slice none 0 0] 76) rfl
    rw [World.size_alloc] at this
    exact this)
  have BW : Hid (Below w.heap.size w W1) := by rw [hW1]; exact ((Below.refl _ _).alloc (Nat.le_refl _) _).alloc (by simp) _
  have hz0 : w.heap.size + 1 < W1.heap.size := by omega
  clear hz1
  obtain ⟨x0, x1, x2, x3⟩ := CA.out W1 (Below.refl _ _)
  generalize riC ws ps = rc at *
  generalize riN ws ps = rn at *
  generalize riD ws ps = rd at *
  generalize dvN ws ps es qs = dn at *
  generalize dvD ws ps es qs = dd at *
  generalize blkB es qs = ok at *
  go_enter Tryz.func73, Tryz.ntmps73
  go_wp2_with fail
  rw [← hW1]
  clear hW1
  refine (LO.out _ BW.out).mono ?_
  rintro e w1 ⟨rfl, hb1⟩
  have B1 := hideIt hb1
  have B1w := hideIt (below_trans BW.out B1.out BW.out.size)
  clear x0 x1 x2 x3 hb1
  obtain ⟨x0, x1, x2, x3⟩ := CA.out w1 B1.out
  cases ok with
  | false =>
    obtain ⟨rfl, rfl⟩ := NO.out rfl
    have CB := hideIt (CR.out _ B1.out)
    obtain ⟨p0, p1, p2, p3⟩ := two_cells CB.out
    have BR : Hid (Below w.heap.size w ((w1.setCell ⟨w.heap.size + 1, 0, none⟩ (.slice none 0 0)).setCell ⟨w.heap.size + 1, 1, none⟩ (.slice none 0 0))) := (B1w.out.setCell (by simp only; omega) _).setCell (by simp only; omega) _
    clear NO YES
    go_wp2
    refine bodyPost_ret (v := .agg #[.slice none 0 0, .slice none 0 0]) (by simp [results, Tryz.results73, go_sem, p0, p1]) rfl ?_
    exact ⟨_, rfl, rowim_nil _ _ _, BR.out⟩
  | true =>
    obtain ⟨rfl, rfl⟩ := YES.out rfl
    clear NO YES
    go_wp2_with fail
    refine (LR.out _ B1w.out).mono ?_
    rintro e w2 ⟨v2, rfl, ⟨vI, vD, rfl, hI, hD⟩, hb2⟩
    obtain ⟨-, a1, c1, hv1, -⟩ := hI.rd
    obtain ⟨-, a2, c2, hv2, -⟩ := hD.rd
    subst hv1
    subst hv2
    have HI := hideIt hI
    have HD := hideIt hD
    have B2 := hideIt (bel2 B1.out hb2)
    have B3 : Hid (Below W1.heap.size W1 (w2.alloc (.cells #[.slice a1 dn.length c1, .slice a2 dd.length c2] 76))) := below_allocB B2.out _
    have hz12 : W1.heap.size ≤ w1.heap.size := B1.out.size
    have hz2 : w1.heap.size ≤ w2.heap.size := hb2.size
    have hzw : w.heap.size ≤ w1.heap.size := B1w.out.size
    clear x0 x1 x2 x3 hb2 hI hD
    obtain ⟨y0, y1, _, _⟩ := two_cells (at_new (w := w2) (o := .cells #[.slice a1 dn.length c1, .slice a2 dd.length c2] 76) rfl)
    obtain ⟨w3, hw3⟩ : ∃ w3, w3 = w2.alloc (.cells #[.slice a1 dn.length c1, .slice a2 dd.length c2] 76) := ⟨_, rfl⟩
    have BC : Hid (Below w2.heap.size w2 w3) := by rw [hw3]; exact (Below.refl _ _).alloc (Nat.le_refl _) _
    rw [← hw3] at B3 y0 y1
    have HI3 := hideIt (HI.out.below BC.out (Nat.le_refl _))
    have HD3 := hideIt (HD.out.below BC.out (Nat.le_refl _))
    have hz3 : w2.heap.size ≤ w3.heap.size := BC.out.size
    have CB := hideIt (CR.out _ B3.out)
    obtain ⟨p0, p1, p2, p3⟩ := two_cells CB.out
    have BR : Hid (Below w.heap.size w ((w3.setCell ⟨w.heap.size + 1, 0, none⟩ (.slice a1 dn.length c1)).setCell ⟨w.heap.size + 1, 1, none⟩ (.slice a2 dd.length c2))) := ((below_trans BW.out B3.out BW.out.size).setCell (by simp only; omega) _).setCell (by simp only; omega) _
    have RF := hideIt (rowim_wide (rowim_set HI3.out HD3.out CB.out (.slice a1 dn.length c1) (.slice a2 dd.length c2)) (lo' := w.heap.size) (hi' := ((w3.setCell ⟨w.heap.size + 1, 0, none⟩ (.slice a1 dn.length c1)).setCell ⟨w.heap.size + 1, 1, none⟩ (.slice a2 dd.length c2)).heap.size) (by omega) (by simp; omega))
    clear CB HI HD HI3 HD3 BC B3 B2 LR LO CA CR
    subst hw3
    go_wp2
    refine bodyPost_ret (v := .agg #[.slice a1 dn.length c1, .slice a2 dd.length c2]) (by simp [results, Tryz.results73, go_sem, p0, p1]) rfl ?_
    exact ⟨_, rfl, RF.out, BR.out⟩
end Go.Proofs.YtbjjdkemappelaaGreatDoor
