/- The model of devices: by the model of the document. -/
import Derived.Test.YtihmihkhkmadmaaGreatDoorMdG
import Derived.Test.YtihmihkhkmadmaaGreatDoorZBJ
namespace Go.Proofs.YtihmihkhkmadmaaGreatDoor
open Go.RowKit
def moT (ws : List Int) (ps : List St) (es : List Int) (qs : List Se) : List Th := if dvB ws ps es qs = true then ofL ws ps es qs (dvN ws ps es qs) else []
def moD (ws : List Int) (ps : List St) (es : List Int) (qs : List Se) : List Den := if dvB ws ps es qs = true then dvD ws ps es qs else []
def moC (ws : List Int) (ps : List St) (es : List Int) (qs : List Se) : Int := if dvB ws ps es qs = true then 0 else 1
theorem dvI {ws : List Int} {ps : List St} {es : List Int} {qs : List Se} (d : dvB ws ps es qs = true) : imgB (dvN ws ps es qs) (dvD ws ps es qs) = true := by rw [(dv_yes d).2.2.1, (dv_yes d).2.2.2.1]; exact (dv_yes d).2.2.2.2
theorem dvL {ws : List Int} {ps : List St} {es : List Int} {qs : List Se} (d : dvB ws ps es qs = true) : (dvN ws ps es qs).length = 16 ∧ (dvD ws ps es qs).length = 24 ∧ ∀ k (h : k < (dvN ws ps es qs).length), inoB (dvN ws ps es qs)[k] = true := by
  obtain ⟨a, b, -, o, -⟩ := pimg_all (dvI d)
  exact ⟨a, b, of_decide_eq_true o⟩
set_option maxRecDepth 100000 in
set_option maxHeartbeats 8000000 in
theorem specModelOf_any (v : Value) (ws : List Int) (ps : List St) (es : List Int) (qs : List Se) (w : World) (h : RdDev w v ws ps es qs) (hw : ws.length ≤ 1048576) (hp : ps.length ≤ 1048576) (he : es.length ≤ 1048576) (hq : qs.length ≤ 1048576) :
    Calls Tryz.prog 5 #[v] w fun e w' => ∃ v', e = .returned (.tuple #[v', .int .i64 (moC ws ps es qs)]) ∧ OwMd w' w.heap.size w'.heap.size v' (moT ws ps es qs) (moD ws ps es qs) ∧ Below w.heap.size w w' := by
  have LI := hideIt (fun w1 (hb : Below w.heap.size w w1) => l08Image_any v ws ps es qs w1 (h.below hb) hw hp he hq)
  have LO := hideIt (fun (d : dvB ws ps es qs = true) v2 w1 (hb : Below w.heap.size w w1) (h2 : RdIm w1 v2 (dvN ws ps es qs) (dvD ws ps es qs)) => l12Of_any v v2 ws ps es qs (dvN ws ps es qs) (dvD ws ps es qs) w1 (h.below hb) (dv_yes d).1 (dv_yes d).2.1 h2 (by rw [(dvL d).1]; decide) (by rw [(dvL d).2.1]; decide) (dvL d).2.2)
  have ET : Hid (dvB ws ps es qs = true → moT ws ps es qs = ofL ws ps es qs (dvN ws ps es qs) ∧ moD ws ps es qs = dvD ws ps es qs ∧ moC ws ps es qs = 0) := fun d => ⟨if_pos d, if_pos d, if_pos d⟩
  have EF : Hid (dvB ws ps es qs = false → moT ws ps es qs = [] ∧ moD ws ps es qs = [] ∧ moC ws ps es qs = 1) := fun d => by
    have d' : ¬ dvB ws ps es qs = true := by rw [d]; decide
    exact ⟨if_neg d', if_neg d', if_neg d'⟩
  obtain ⟨dW, eW, dP, eP, dS, eS, dQ, eQ, rfl, -, -⟩ := h.form
  clear h
  obtain ⟨W, hW⟩ : ∃ W, W = (w.alloc (.cells #[.slice dW ws.length eW, .slice dP ps.length eP, .slice dS es.length eS, .slice dQ qs.length eQ] 45)).alloc (.cells #[.slice none 0 0, .slice none 0 0] 35) := ⟨_, rfl⟩
  have hzW : W.heap.size = w.heap.size + 1 + 1 := by rw [hW]; simp
  have CD : Hid (∀ w', Below W.heap.size W w' → w'.cell? ⟨w.heap.size, 0, none⟩ = some (.slice dW ws.length eW) ∧ w'.cell? ⟨w.heap.size, 1, none⟩ = some (.slice dP ps.length eP) ∧ w'.cell? ⟨w.heap.size, 2, none⟩ = some (.slice dS es.length eS) ∧ w'.cell? ⟨w.heap.size, 3, none⟩ = some (.slice dQ qs.length eQ)) := fun w' hb => by
    have : w'.heap[w.heap.size]? = some (.cells #[.slice dW ws.length eW, .slice dP ps.length eP, .slice dS es.length eS, .slice dQ qs.length eQ] 45 (0, 0)) := (hb.block _ (by omega)).trans (by rw [hW]; exact at_old (at_new rfl))
    obtain ⟨x0, x1, x2, x3, -, -, -, -⟩ := four_cells this
    exact ⟨x0, x1, x2, x3⟩
  have CR : Hid (∀ w', Below W.heap.size W w' → w'.heap[w.heap.size + 1]? = some (.cells #[.slice none 0 0, .slice none 0 0] 35 (0, 0))) := fun w' hb => (hb.block _ (by omega)).trans (by
    rw [hW]
    have := at_new (w := w.alloc (.cells #[.slice dW ws.length eW, .slice dP ps.length eP, .slice dS es.length eS, .slice dQ qs.length eQ] 45)) (o := .cells #[.slice none 0 0, .slice none 0 0] 35) rfl
    rw [World.size_alloc] at this
    exact this)
  have BW : Hid (Below w.heap.size w W) := by rw [hW]; exact ((Below.refl _ _).alloc (Nat.le_refl _) _).alloc (by simp) _
  have hz2 : w.heap.size + 1 < W.heap.size := by omega
  clear hzW
  obtain ⟨x0, x1, x2, x3⟩ := CD.out _ (Below.refl _ _)
  generalize moT ws ps es qs = mt at *
  generalize moD ws ps es qs = md at *
  generalize moC ws ps es qs = mc at *
  generalize dvB ws ps es qs = db at *
  generalize dvN ws ps es qs = dn at *
  generalize dvD ws ps es qs = dd at *
  go_enter Tryz.func5, Tryz.ntmps5
  go_wp2_with fail
  rw [← hW]
  clear hW
  refine (LI.out _ BW.out).mono ?_
  rintro e w1 ⟨v1, rfl, hR, hb1⟩
  have HR := hideIt hR
  obtain ⟨vI, vD, rfl, hI, hD⟩ := hR
  obtain ⟨a1, k1, hv1, -, hcN⟩ := RdN.shape hI.rd
  obtain ⟨-, a2, k2, hv2, -⟩ := hD.rd
  subst hv1
  subst hv2
  have A1 := hideIt hb1
  have B1 := hideIt (below_trans BW.out hb1 BW.out.size)
  have BC : Hid (Below w1.heap.size w1 (w1.alloc (.cells #[.slice a1 dn.length k1, .slice a2 dd.length k2] 56))) := (Below.refl _ _).alloc (Nat.le_refl _) _
  have VM : Hid ((w1.alloc (.cells #[.slice a1 dn.length k1, .slice a2 dd.length k2] 56)).heap[w1.heap.size]? = some (.cells #[.slice a1 dn.length k1, .slice a2 dd.length k2] 56 (0, 0))) := at_new rfl
  obtain ⟨w2, hw2⟩ : ∃ w2, w2 = w1.alloc (.cells #[.slice a1 dn.length k1, .slice a2 dd.length k2] 56) := ⟨_, rfl⟩
  rw [← hw2] at BC VM
  have A2 := hideIt (bel2 A1.out BC.out)
  have B2 := hideIt (below_trans B1.out BC.out B1.out.size)
  have R2 := hideIt (HR.out.below BC.out (Nat.le_refl _)).rd
  have hz4 : W.heap.size ≤ w2.heap.size := A2.out.size
  clear hb1 hI hD hcN HR x0 x1 x2 x3 B1
  obtain ⟨y0, y1, _, _⟩ := two_cells VM.out
  obtain ⟨x0, x1, x2, x3⟩ := CD.out w2 A2.out
  have C2 := hideIt (CR.out w2 A2.out)
  obtain ⟨p0, p1, p2, p3⟩ := two_cells C2.out
  rw [hw2] at x0 x1 x2 x3 y0 y1 p0 p1 p2 p3
  cases db with
  | false =>
    obtain ⟨rfl, rfl, rfl⟩ := EF.out rfl
    have BR : Hid (Below w.heap.size w ((w2.setCell ⟨w.heap.size + 1, 0, none⟩ (.slice none 0 0)).setCell ⟨w.heap.size + 1, 1, none⟩ (.slice none 0 0))) := (B2.out.setCell (by simp only; omega) _).setCell (by simp only; omega) _
    have S2 : ((w2.setCell ⟨w.heap.size + 1, 0, none⟩ (.slice none 0 0)).setCell ⟨w.heap.size + 1, 1, none⟩ (.slice none 0 0)).heap[w.heap.size + 1]? = some (.cells #[.slice none 0 0, .slice none 0 0] 35 (0, 0)) := eight_set (xs := [.slice none 0 0, .slice none 0 0]) (two_set0 C2.out (.slice none 0 0)) 1 _
    obtain ⟨s0, s1, -, -⟩ := two_cells S2
    clear LO ET EF
    go_wp2
    rw [← hw2]
    refine bodyPost_ret (v := .tuple #[.agg #[.slice none 0 0, .slice none 0 0], .int .i64 1]) (by simp [results, Tryz.results5, go_sem, s0, s1]) rfl ?_
    exact ⟨_, rfl, OwMd.nil _ _ _, BR.out⟩
  | true =>
    obtain ⟨rfl, rfl, rfl⟩ := ET.out rfl
    have LO2 := hideIt (LO.out rfl _ w2 B2.out R2.out)
    clear ET EF LO
    go_wp2_with fail
    rw [← hw2]
    clear hw2
    refine LO2.out.mono ?_
    rintro e w3 ⟨v3, rfl, hR3, hb3⟩
    have A3 := hideIt (bel2 A2.out hb3)
    have B3 := hideIt (below_trans B2.out hb3 B2.out.size)
    have hz5 := hb3.size
    have O3 := hideIt (show OwMd w3 w2.heap.size w3.heap.size v3 _ _ from hR3)
    obtain ⟨aT, cT, aE, cE, rfl⟩ := hR3.rd.form
    clear hR3 hb3 x0 x1 x2 x3 y0 y1 p0 p1 p2 p3 C2 LO2
    have C3 := hideIt (CR.out w3 A3.out)
    obtain ⟨p0, p1, p2, p3⟩ := two_cells C3.out
    generalize (ofL ws ps es qs dn).length = nT at *
    have OF : Hid (Outside (w.heap.size + 1) (w.heap.size + 1 + 1) w3 ((w3.setCell ⟨w.heap.size + 1, 0, none⟩ (.slice aT nT cT)).setCell ⟨w.heap.size + 1, 1, none⟩ (.slice aE md.length cE))) := by
      repeat (refine Outside.setCell ?_ (by simp only; omega) (by simp only; omega) _)
      exact Outside.refl _ _ _
    have BR : Hid (Below w.heap.size w ((w3.setCell ⟨w.heap.size + 1, 0, none⟩ (.slice aT nT cT)).setCell ⟨w.heap.size + 1, 1, none⟩ (.slice aE md.length cE))) := (B3.out.setCell (by simp only; omega) _).setCell (by simp only; omega) _
    have S2 : ((w3.setCell ⟨w.heap.size + 1, 0, none⟩ (.slice aT nT cT)).setCell ⟨w.heap.size + 1, 1, none⟩ (.slice aE md.length cE)).heap[w.heap.size + 1]? = some (.cells #[.slice aT nT cT, .slice aE md.length cE] 35 (0, 0)) := eight_set (xs := [.slice aT nT cT, .slice none 0 0]) (two_set0 C3.out (.slice aT nT cT)) 1 _
    obtain ⟨s0, s1, -, -⟩ := two_cells S2
    have zq := OF.out.size
    go_wp2
    refine bodyPost_ret (v := .tuple #[.agg #[.slice aT nT cT, .slice aE md.length cE], .int .i64 0]) (by simp [results, Tryz.results5, go_sem, s0, s1]) rfl ?_
    exact ⟨_, rfl, (O3.out.outside OF.out (.inr (by omega)) (Nat.le_refl _)).wide (by omega) zq, BR.out⟩
end Go.Proofs.YtihmihkhkmadmaaGreatDoor
